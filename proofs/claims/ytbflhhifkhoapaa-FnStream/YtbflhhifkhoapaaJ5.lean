/- What SplitMsgs comes to, and the contract of spec.SplitMsgs. -/
import Derived.Test.YtbflhhifkhoapaaJ4
import Derived.Deep.DeepCutAuto
import Derived.WalkKit
import Derived.WalkSpells
import Derived.WalkLawsBesides
import Derived.Deep.RegionHeld
namespace Go.Proofs.Ytbflhhifkhoapaa
open Go.RowKit
set_option linter.unusedVariables false
def spl (f : Nat → Int) (n : Nat) : Nat → Nat → List MT × Nat × Int
  | 0, x => ([], x, if x < n then 6 else 0)
  | r + 1, x => if n ≤ x then ([], x, 0) else if (getI f n x).2.2 = false then ([], x, 4) else if (n : Int) - (getI f n x).2.1 < (getI f n x).1 then ([], x, 1)
    else if ¬ (unp (fun i => f ((getI f n x).2.1.toNat + i)) (getI f n x).1.toNat).1 = 0 then ([], x, (unp (fun i => f ((getI f n x).2.1.toNat + i)) (getI f n x).1.toNat).1)
    else ((unp (fun i => f ((getI f n x).2.1.toNat + i)) (getI f n x).1.toNat).2 :: (spl f n r ((getI f n x).2.1.toNat + (getI f n x).1.toNat)).1, (spl f n r ((getI f n x).2.1.toNat + (getI f n x).1.toNat)).2)
theorem spl_end {f : Nat → Int} {n x : Nat} (h : ¬ x < n) : ∀ r, spl f n r x = ([], x, 0)
  | 0 => by rw [spl, if_neg h]
  | r + 1 => by rw [spl, if_pos (by omega)]
theorem spl_full {f : Nat → Int} {n x : Nat} (h : x < n) : spl f n 0 x = ([], x, 6) := by rw [spl, if_pos h]
theorem spl_num {f : Nat → Int} {n x r : Nat} (h : x < n) (h1 : (getI f n x).2.2 = false) : spl f n (r + 1) x = ([], x, 4) := by rw [spl, if_neg (by omega), if_pos h1]
theorem spl_short {f : Nat → Int} {n x r X N : Nat} (h : x < n) (h1 : getI f n x = ((N : Int), (X : Int), true)) (h2 : (n : Int) - X < N) : spl f n (r + 1) x = ([], x, 1) := by
  rw [spl, if_neg (by omega), h1, if_neg (by simp), if_pos h2]
theorem spl_code {f : Nat → Int} {n x r X N : Nat} {q : Int} (h : x < n) (h1 : getI f n x = ((N : Int), (X : Int), true)) (h2 : ¬ (n : Int) - X < N) (h3 : (unp (fun i => f (X + i)) N).1 = q) (h4 : ¬ q = 0) : spl f n (r + 1) x = ([], x, q) := by
  rw [spl, if_neg (by omega), h1, if_neg (by simp), if_neg h2]
  simp only [Int.toNat_natCast]
  rw [if_pos (by rw [h3]; exact h4), h3]
theorem spl_go {f : Nat → Int} {n x r X N : Nat} {M : MT} (h : x < n) (h1 : getI f n x = ((N : Int), (X : Int), true)) (h2 : ¬ (n : Int) - X < N) (h3 : unp (fun i => f (X + i)) N = (0, M)) : spl f n (r + 1) x = (M :: (spl f n r (X + N)).1, (spl f n r (X + N)).2) := by
  rw [spl, if_neg (by omega), h1, if_neg (by simp), if_neg h2]
  simp only [Int.toNat_natCast]
  rw [if_neg (by rw [h3]; simp), h3]
theorem spl_app {f : Nat → Int} {n r x : Nat} {A : List MT} {M : MT} {r' x' : Nat} (h : spl f n 40 0 = (A ++ (spl f n r x).1, (spl f n r x).2)) (hg : spl f n r x = (M :: (spl f n r' x').1, (spl f n r' x').2)) : spl f n 40 0 = ((A ++ [M]) ++ (spl f n r' x').1, (spl f n r' x').2) := by
  rw [h, hg]
  simp
theorem spl_stop {f : Nat → Int} {n r x : Nat} {A : List MT} {q : Int} (h : spl f n 40 0 = (A ++ (spl f n r x).1, (spl f n r x).2)) (hg : spl f n r x = ([], x, q)) : spl f n 40 0 = (A, x, q) := by
  rw [h, hg]
  simp
def mT (x0 x1 x2 x3 x4 x5 x6 : Int) (x7 : ByteArray) : MT := (x0, x1, x2, x3, x4, x5, x6, x7)
def mvs (A : List MT) : List Value := A.flatMap fun M => [.int .i64 M.1, .int .i64 M.2.1, .int .i64 M.2.2.1, .int .i64 M.2.2.2.1, .int .i64 M.2.2.2.2.1, .int .i64 M.2.2.2.2.2.1, .int .i64 M.2.2.2.2.2.2.1, .string M.2.2.2.2.2.2.2]
theorem mvs_add (A : List MT) (x0 : Int) (x1 : Int) (x2 : Int) (x3 : Int) (x4 : Int) (x5 : Int) (x6 : Int) (x7 : ByteArray) : mvs (A ++ [mT x0 x1 x2 x3 x4 x5 x6 x7]) = mvs A ++ [.int .i64 x0, .int .i64 x1, .int .i64 x2, .int .i64 x3, .int .i64 x4, .int .i64 x5, .int .i64 x6, .string x7] := by
  unfold mvs
  rw [List.flatMap_append]
  rfl
theorem mvs_cons (M : MT) (A : List MT) : mvs (M :: A) = [.int .i64 M.1, .int .i64 M.2.1, .int .i64 M.2.2.1, .int .i64 M.2.2.2.1, .int .i64 M.2.2.2.2.1, .int .i64 M.2.2.2.2.2.1, .int .i64 M.2.2.2.2.2.2.1, .string M.2.2.2.2.2.2.2] ++ mvs A := rfl
theorem mvs_len : ∀ A : List MT, (mvs A).length = A.length * 8
  | [] => rfl
  | M :: A => by
    have := mvs_len A
    rw [mvs_cons, List.length_append, this]
    simp
    omega
theorem mvs_at : ∀ (A : List MT) (j : Nat), j < A.length * 8 → (mvs A)[j]? = some (MFMsg (fun i => A.getD i zT) j)
  | [], j, h => by simp at h
  | M :: A, j, h => by
    rw [mvs_cons]
    by_cases hj : j < 8
    · rw [List.getElem?_append_left (by simpa using hj)]
      have e : MFMsg (fun i => (M :: A).getD i zT) j = MCMsg M j := by
        rw [MFMsg, show j / 8 = 0 by omega, show j % 8 = j by omega]
        rfl
      rw [e]
      match j, hj with
      | 0, _ => rfl
      | 1, _ => rfl
      | 2, _ => rfl
      | 3, _ => rfl
      | 4, _ => rfl
      | 5, _ => rfl
      | 6, _ => rfl
      | 7, _ => rfl
    · rw [List.getElem?_append_right (by simp; omega)]
      have e : MFMsg (fun i => (M :: A).getD i zT) j = MFMsg (fun i => A.getD i zT) (j - 8) := by
        rw [MFMsg, MFMsg, show j / 8 = (j - 8) / 8 + 1 by omega, show j % 8 = (j - 8) % 8 by omega]
        rfl
      rw [e]
      exact mvs_at A (j - 8) (by simp at h; omega)
theorem ownM_src {w : World} {base : Nat} {v : Value} {A : List MT} (h : w.ownsRow base 27 8 v A.length (mvs A)) : ∃ a c, v = .slice a A.length c ∧ A.length ≤ c ∧ c ≤ maxLen ∧ SrcC w a (A.length * 8) (MFMsg fun i => A.getD i zT) := by
  rcases h.2 with ⟨rfl, h0⟩ | ⟨g, cap, cur, rfl, hb, hg, hc, hm, hs, ht⟩
  · exact ⟨none, 0, by rw [h0], by omega, by simp [maxLen], .inl (by omega)⟩
  · refine ⟨_, cap, rfl, hc, hm, .inr ⟨g, 0, rfl, (Array.getElem?_eq_some_iff.1 hg).1, fun i hi => ?_⟩⟩
    have hu := mvs_at A i hi
    rw [← ht, List.getElem?_take, if_pos (by omega)] at hu
    simp [World.cell?, hg]
    simpa using hu
theorem eight_at (w : World) (x0 : Int) (x1 : Int) (x2 : Int) (x3 : Int) (x4 : Int) (x5 : Int) (x6 : Int) (x7 : ByteArray) (T : TypeId) (j : Nat) (u : Value) (h : [Value.int .i64 x0, .int .i64 x1, .int .i64 x2, .int .i64 x3, .int .i64 x4, .int .i64 x5, .int .i64 x6, .string x7][j]? = some u) : (w.alloc (.cells #[.int .i64 x0, .int .i64 x1, .int .i64 x2, .int .i64 x3, .int .i64 x4, .int .i64 x5, .int .i64 x6, .string x7] T)).cell? ((⟨w.heap.size, 0, none⟩ : Addr).add j) = some u := by
  match j, h with
  | 0, h => simp at h; subst h; simp [Addr.add]
  | 1, h => simp at h; subst h; simp [Addr.add]
  | 2, h => simp at h; subst h; simp [Addr.add]
  | 3, h => simp at h; subst h; simp [Addr.add]
  | 4, h => simp at h; subst h; simp [Addr.add]
  | 5, h => simp at h; subst h; simp [Addr.add]
  | 6, h => simp at h; subst h; simp [Addr.add]
  | 7, h => simp at h; subst h; simp [Addr.add]
theorem eight_one (x0 : Int) (x1 : Int) (x2 : Int) (x3 : Int) (x4 : Int) (x5 : Int) (x6 : Int) (x7 : ByteArray) : ∀ u ∈ [Value.int .i64 x0, .int .i64 x1, .int .i64 x2, .int .i64 x3, .int .i64 x4, .int .i64 x5, .int .i64 x6, .string x7], u.oneCell' = true := by
  intro u hu
  simp at hu
  rcases hu with rfl | rfl | rfl | rfl | rfl | rfl | rfl | rfl <;> rfl
theorem ownM_new (w : World) (base : Nat) (hb : base ≤ w.heap.size) : (w.alloc (.cells #[] 27)).ownsRow base 27 8 (.slice (some ⟨w.heap.size, 0, none⟩) 0 0) ([] : List MT).length (mvs []) := World.ownsRow_made w #[] 0 hb (by simp [maxLen]) (by simp)
end Go.Proofs.Ytbflhhifkhoapaa
