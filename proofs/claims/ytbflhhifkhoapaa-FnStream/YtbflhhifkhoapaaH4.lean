/- What Unpack comes to. -/
import Derived.Test.YtbflhhifkhoapaaG13
import Derived.Test.YtbflhhifkhoapaaH1
import Derived.Laws.BytesArg
import Derived.WalkKit
import Derived.WalkSpells
import Derived.WalkLawsBesides
import Derived.Deep.RegionHeld
namespace Go.Proofs.Ytbflhhifkhoapaa
open Go.RowKit
set_option linter.unusedVariables false
def ats (f : Nat → Int) (m : Nat) : Nat → Int
  | 0 => 1
  | j + 1 => (getI f m (ats f m j)).2.1
def val (f : Nat → Int) (m : Nat) (j : Nat) : Int := (getI f m (ats f m j)).1
def fldC (f : Nat → Int) (m : Nat) (x : Int) : Bool := (getI f m x).2.2 && decide ((getI f m x).1 ≤ 4000000000000)
def okA (f : Nat → Int) (m : Nat) : Nat → Bool
  | 0 => true
  | j + 1 => okA f m j && fldC f m (ats f m j)
def endI (x : Int) : Int := if 2000000000000 < x then 1000000000001 else unfI x
def strF (f : Nat → Int) (X N : Nat) : ByteArray := strOfNums ((List.range N).map fun i => f (X + i))
def MT : Type := Int × Int × Int × Int × Int × Int × Int × ByteArray
def zT : MT := (0, 0, 0, 0, 0, 0, 0, ⟨#[]⟩)
def msgT (M : MT) : Bool := msgB M.1 M.2.1 M.2.2.1 M.2.2.2.1 M.2.2.2.2.1 M.2.2.2.2.2.1 M.2.2.2.2.2.2.1 M.2.2.2.2.2.2.2
def fin (m : Nat) (M : MT) (x : Int) : Int × MT := if x < m then (6, zT) else if msgT M then (0, M) else (5, zT)
def unp3 (f : Nat → Int) (m : Nat) : Int × MT := if okA f m 3 then (if (m : Int) - ats f m 3 < val f m 2 then (4, zT) else fin m (3, val f m 0, 0, 0, 0, 0, val f m 1, strF f (ats f m 3).toNat (val f m 2).toNat) (ats f m 3 + val f m 2)) else (4, zT)
def unp2 (f : Nat → Int) (m : Nat) : Int × MT := if okA f m 5 then fin m (2, val f m 0, val f m 1, val f m 2, endI (val f m 3), endI (val f m 4), 0, ⟨#[]⟩) (ats f m 5) else (4, zT)
def unp1 (f : Nat → Int) (m : Nat) : Int × MT := if okA f m 3 then fin m (1, val f m 0, val f m 1, val f m 2, 0, 0, 0, ⟨#[]⟩) (ats f m 3) else (4, zT)
def unp (f : Nat → Int) (n : Nat) : Int × MT :=
  if n < 2 then (1, zT) else if ¬ chk f (n - 1) = f (n - 1) then (2, zT) else if ¬ (1 ≤ f 0 ∧ f 0 ≤ 3) then (3, zT)
  else if f 0 = 3 then unp3 f (n - 1) else if f 0 = 2 then unp2 f (n - 1) else unp1 f (n - 1)
def mv (M : MT) : Value := .agg #[.int .i64 M.1, .int .i64 M.2.1, .int .i64 M.2.2.1, .int .i64 M.2.2.2.1, .int .i64 M.2.2.2.2.1, .int .i64 M.2.2.2.2.2.1, .int .i64 M.2.2.2.2.2.2.1, .string M.2.2.2.2.2.2.2]
def uv (r : Int × MT) : Value := .tuple #[mv r.2, .int .i64 r.1]
theorem ats_bd {f : Nat → Int} {m : Nat} (hf : ∀ i, i < m → 0 ≤ f i) : ∀ {j : Nat}, okA f m j = true → 1 ≤ ats f m j ∧ (1 ≤ j → ats f m j ≤ m)
  | 0, _ => by simp [ats]
  | j + 1, h => by
    simp only [okA, fldC, Bool.and_eq_true] at h
    have a := ats_bd hf h.1
    have b := getI_bd hf h.2.1
    exact ⟨by simp only [ats]; omega, fun _ => b.2.2⟩
theorem val_bd {f : Nat → Int} {m : Nat} (hf : ∀ i, i < m → 0 ≤ f i) {n : Nat} : ∀ {j : Nat}, okA f m n = true → j < n → 0 ≤ val f m j ∧ val f m j ≤ 4000000000000 := by
  induction n with
  | zero => intro j _ h; omega
  | succ n ih =>
    intro j h hj
    simp only [okA, fldC, Bool.and_eq_true, decide_eq_true_eq] at h
    by_cases e : j = n
    · subst e
      exact ⟨(getI_bd hf h.2.1).1, h.2.2⟩
    · exact ih h.1 (by omega)
theorem okA_le {f : Nat → Int} {m : Nat} {n : Nat} (h : okA f m n = true) : ∀ {j : Nat}, j ≤ n → okA f m j = true := by
  induction n with
  | zero => intro j hj; have : j = 0 := by omega
            subst this; exact h
  | succ n ih =>
    intro j hj
    by_cases e : j = n + 1
    · subst e; exact h
    · simp only [okA, Bool.and_eq_true] at h
      exact ih h.1 (by omega)
set_option maxHeartbeats 400000 in
theorem l4End_any (x : Int) (w : World) (h0 : 0 ≤ x) :
    Calls Try.prog 51 #[.int .i64 x] w fun e w' => e = .returned (.int .i64 (endI x)) ∧ w = w' := by
  by_cases h : 2000000000000 < x
  · have HE : Hid (endI x = 1000000000001) := if_pos h
    go_enter Try.func51, Try.ntmps51
    go_wp2_with fail
    go_ret
    exact ⟨ret_int HE.out.symm, rfl⟩
  · have HE : Hid (endI x = unfI x) := if_neg h
    go_enter Try.func51, Try.ntmps51
    go_wp2_with fail
    refine (specUnfold_any _ _).mono ?_
    rintro e w' ⟨rfl, rfl⟩
    go_wp2_with fail
    go_ret
    exact ⟨ret_int HE.out.symm, rfl⟩
theorem okA_no {f : Nat → Int} {m j : Nat} (h : fldC f m (ats f m j) = false) : ∀ n, j < n → okA f m n = false
  | 0, hn => absurd hn (Nat.not_lt_zero _)
  | n + 1, hn => by
    by_cases e : j = n
    · subst e; simp [okA, h]
    · simp [okA, okA_no h n (by omega)]
theorem Thaw8.drew {j : Nat} {w : World} (h : Thaw8 w j) : Thaw8 w.drew j := h
theorem Byts.drew {b off n : Nat} {w : World} {f : Nat → Int} (h : Byts w b off n f) : Byts w.drew b off n f := h
theorem fin_long {m : Nat} {M : MT} {x : Int} (h : x < m) : fin m M x = (6, zT) := if_pos h
theorem fin_bad {m : Nat} {M : MT} {x : Int} (h : ¬ x < m) (hb : msgT M = false) : fin m M x = (5, zT) := by rw [fin, if_neg h, hb]; rfl
theorem fin_well {m : Nat} {M : MT} {x : Int} (h : ¬ x < m) (hb : msgT M = true) : fin m M x = (0, M) := by rw [fin, if_neg h, hb]; rfl
end Go.Proofs.Ytbflhhifkhoapaa
