/- Sources: how many hold a number, where that may turn, and the runs. Co -/
import Derived.Test.YtikbjljkakabdaaGreatMB5
namespace Go.Proofs.YtikbjljkakabdaaGreat
open Go.RowKit
set_option linter.unusedVariables false
set_option maxRecDepth 100000
set_option maxHeartbeats 16000000
def cov (f : Nat → Int × Int) : Nat → Int → Nat
 | 0, _ => 0
 | n + 1, t => cov f n t + (if cO (f n).1 (f n).2 t then 1 else 0)
theorem iM (f : Nat → Int × Int) (t : Int) : ∀ n, cov f n t ≤ n
 | 0 => Nat.le_refl _
 | n + 1 => by have := iM f t n; simp only [cov]; split <;> omega
def ba (f : Nat → Int × Int) (n : Nat) : Bool := decide (n ≤ 12) && be f n
def cvI (f : Nat → Int × Int) (n : Nat) (t : Int) : Int := if ba f n then (cov f n t : Int) else 0
theorem dV {f : Nat → Int × Int} : ∀ {n : Nat}, be f n = true → ∀ i, i < n → okI (f i).1 (f i).2 = true
 | 0, _, i, h => absurd h (Nat.not_lt_zero _)
 | n + 1, h, i, hi => by
  simp only [be, Bool.and_eq_true] at h
  by_cases e : i = n
  ·subst e; exact h.2
  ·exact dV h.1 i (by omega)
def ins (x : Int) : List Int → List Int
 | [] => [x]
 | y :: l => if y < x then y :: ins x l else if y = x then y :: l else x :: y :: l
theorem dB {x z : Int} : ∀ {L : List Int}, z ∈ ins x L ↔ z = x ∨ z ∈ L
 | [] => by simp [ins]
 | y :: l => by
  simp only [ins]
  split
  ·simp only [List.mem_cons, dB (L := l)]
   constructor
   ·rintro (h | h | h) <;> simp [h]
   ·rintro (h | h | h) <;> simp [h]
  ·split
   ·next h =>
     subst h; simp only [List.mem_cons]; constructor
     ·rintro (h | h) <;> simp [h]
     ·rintro (h | h | h) <;> simp [h]
   ·simp only [List.mem_cons]
theorem nU {x : Int} : ∀ {L : List Int}, L.Pairwise (· < ·) → (ins x L).Pairwise (· < ·)
 | [], _ => by simp [ins]
 | y :: l, h => by
  have ⟨h1, h2⟩ := List.pairwise_cons.1 h
  simp only [ins]
  split
  ·next hy =>
   refine List.pairwise_cons.2 ⟨fun z hz => ?_, nU h2⟩
   rcases dB.1 hz with e | e
   ·omega
   ·exact h1 z e
  ·split
   ·exact h
   ·refine List.pairwise_cons.2 ⟨fun z hz => ?_, h⟩
    rcases List.mem_cons.1 hz with e | e
    ·omega
    ·have := h1 z e; omega
theorem nV {x : Int} : ∀ {L : List Int}, (ins x L).length ≤ L.length + 1
 | [] => by simp [ins]
 | y :: l => by
  have := nV (x := x) (L := l)
  simp only [ins]
  split
  ·simp; omega
  ·split <;> simp
def plc (x : Int) : List Int → Nat
 | [] => 0
 | y :: l => if y < x then plc x l + 1 else 0
theorem ji (x : Int) : ∀ L : List Int, plc x L ≤ L.length
 | [] => Nat.le_refl _
 | y :: l => by have := ji x l; simp only [plc]; split <;> simp <;> omega
theorem mK {x : Int} : ∀ {L : List Int} {i : Nat}, i < plc x L → L.getD i 0 < x
 | [], i, h => absurd h (Nat.not_lt_zero _)
 | y :: l, i, h => by
  simp only [plc] at h
  split at h
  ·next hy =>
   cases i with
   | zero => simpa using hy
   | succ i => simpa using mK (L := l) (i := i) (by omega)
  ·omega
theorem mJ {x : Int} : ∀ {L : List Int}, plc x L < L.length → ¬ L.getD (plc x L) 0 < x
 | [], h => by simp [plc] at h
 | y :: l, h => by
  simp only [plc] at h ⊢
  split at h
  ·next hy => rw [if_pos hy]; simpa using mJ (L := l) (by simpa using h)
  ·next hy => rw [if_neg hy]; simpa using hy
theorem fQ {x : Int} : ∀ {L : List Int}, plc x L < L.length → L.getD (plc x L) 0 = x → ins x L = L
 | [], h, _ => by simp [plc] at h
 | y :: l, h, e => by
  simp only [plc] at h e
  simp only [ins]
  split at h
  ·next hy =>
   rw [if_pos hy] at e ⊢
   rw [fQ (L := l) (by simpa using h) (by simpa using e)]
  ·next hy =>
   rw [if_neg hy] at e ⊢
   rw [if_pos (by simpa using e)]
theorem ja {x : Int} : ∀ {L : List Int}, (plc x L < L.length → L.getD (plc x L) 0 ≠ x) → ins x L = L.take (plc x L) ++ [x] ++ L.drop (plc x L)
 | [], _ => by simp [ins, plc]
 | y :: l, e => by
  simp only [plc] at e
  simp only [ins, plc]
  split
  ·next hy =>
   rw [if_pos hy] at e
   rw [ja (L := l) (fun h => by simpa using e (by simpa using h))]
   simp
  ·next hy =>
   rw [if_neg hy] at e
   rw [if_neg (by simpa using e (by simp))]
   simp
def pl (f : Nat → Int × Int) (i : Nat) : Int := if i % 2 = 1 then (f (i / 2)).2 + 1 else (f (i / 2)).1
def trn (f : Nat → Int × Int) : Nat → List Int
 | 0 => []
 | i + 1 => ins (pl f i) (trn f i)
theorem ej (f : Nat → Int × Int) : ∀ i, (trn f i).Pairwise (· < ·)
 | 0 => List.Pairwise.nil
 | i + 1 => nU (ej f i)
theorem dH (f : Nat → Int × Int) : ∀ i, (trn f i).length ≤ i
 | 0 => Nat.le_refl _
 | i + 1 => by have := dH f i; have := nV (x := pl f i) (L := trn f i); simp only [trn]; omega
theorem fB {f : Nat → Int × Int} {x : Int} : ∀ {i : Nat}, x ∈ trn f i ↔ ∃ j, j < i ∧ pl f j = x
 | 0 => by simp [trn]
 | i + 1 => by
  simp only [trn, dB, fB (i := i)]
  constructor
  ·rintro (h | ⟨j, hj, h⟩)
   ·exact ⟨i, by omega, h.symm⟩
   ·exact ⟨j, by omega, h⟩
  ·rintro ⟨j, hj, h⟩
   by_cases e : j = i
   ·subst e; exact .inl h.symm
   ·exact .inr ⟨j, by omega, h⟩
theorem sM {f : Nat → Int × Int} {n i : Nat} (h : i < n) : (f i).1 ∈ trn f (2 * n) := fB.2 ⟨2 * i, by omega, by simp [pl]⟩
theorem qN {f : Nat → Int × Int} {n i : Nat} (h : i < n) : (f i).2 + 1 ∈ trn f (2 * n) := fB.2 ⟨2 * i + 1, by omega, by
 have e1 : (2 * i + 1) % 2 = 1 := by omega
 have e2 : (2 * i + 1) / 2 = i := by omega
 simp [pl, e1, e2]⟩
theorem eL {f : Nat → Int × Int} {n : Nat} (h : be f n = true) {x : Int} (hx : x ∈ trn f (2 * n)) : -1000000000000 ≤ x ∧ x ≤ 1000000000001 := by
 obtain ⟨j, hj, rfl⟩ := fB.1 hx
 have ⟨h1, h2, h3⟩ := bF (dV h (j / 2) (by omega))
 unfold pl
 split <;> omega
def chg (f : Nat → Int × Int) : Nat → Int → Int
 | 0, _ => 0
 | n + 1, x => chg f n x + (if (f n).1 = x then 1 else 0) - (if (f n).2 + 1 = x then 1 else 0)
def smC (g : Int → Int) (L : List Int) : Int := (L.map g).sum
theorem oe (g h : Int → Int) : ∀ L : List Int, smC (fun x => g x + h x) L = smC g L + smC h L
 | [] => by simp [smC]
 | y :: l => by have := oe g h l; simp only [smC, List.map_cons, List.sum_cons] at this ⊢; omega
theorem oo (g h : Int → Int) : ∀ L : List Int, smC (fun x => g x - h x) L = smC g L - smC h L
 | [] => by simp [smC]
 | y :: l => by have := oo g h l; simp only [smC, List.map_cons, List.sum_cons] at this ⊢; omega
theorem mS {a : Int} : ∀ {L : List Int}, a ∉ L → smC (fun x => if a = x then 1 else 0) L = 0
 | [], _ => by simp [smC]
 | y :: l, h => by
  simp only [List.mem_cons, not_or] at h
  have := mS h.2
  simp only [smC, List.map_cons, List.sum_cons] at this ⊢
  rw [this, if_neg h.1]; rfl
theorem om {a : Int} : ∀ {L : List Int}, L.Pairwise (· < ·) → a ∈ L → smC (fun x => if a = x then 1 else 0) L = 1
 | [], _, h => by simp at h
 | y :: l, hp, h => by
  have ⟨h1, h2⟩ := List.pairwise_cons.1 hp
  by_cases e : a = y
  ·subst e
   have hn : a ∉ l := fun hm => by have := h1 a hm; omega
   have := mS hn
   simp only [smC, List.map_cons, List.sum_cons] at this ⊢
   rw [this]; simp
  ·have := om h2 ((List.mem_cons.1 h).resolve_left e)
   simp only [smC, List.map_cons, List.sum_cons] at this ⊢
   rw [this, if_neg e]; rfl
theorem oj {L R : List Int} {p a : Int} (hp : (L ++ R).Pairwise (· < ·)) (hL : ∀ x, x ∈ L → x ≤ p) (hR : ∀ x, x ∈ R → p < x) (ha : a ∈ L ++ R) : smC (fun x => if a = x then 1 else 0) L = if a ≤ p then 1 else 0 := by
 have h1 := (List.pairwise_append.1 hp).1
 rcases List.mem_append.1 ha with h | h
 ·rw [om h1 h, if_pos (hL a h)]
 ·have hn : a ∉ L := fun hm => by have := hL a hm; have := hR a h; omega
  rw [mS hn, if_neg (by have := hR a h; omega)]
theorem og {L R : List Int} {p : Int} (hp : (L ++ R).Pairwise (· < ·)) (hL : ∀ x, x ∈ L → x ≤ p) (hR : ∀ x, x ∈ R → p < x) {f : Nat → Int × Int} : ∀ {n : Nat}, be f n = true → (∀ i, i < n → (f i).1 ∈ L ++ R ∧ (f i).2 + 1 ∈ L ++ R) → smC (chg f n) L = (cov f n p : Int)
 | 0, _, _ => by
  show smC (fun _ => 0) L = 0
  clear hp hL
  induction L with
  | nil => rfl
  | cons y l ih => simpa [smC] using ih
 | n + 1, ho, hm => by
  simp only [be, Bool.and_eq_true] at ho
  have ih := og hp hL hR ho.1 (fun i hi => hm i (by omega))
  have ⟨m1, m2⟩ := hm n (by omega)
  have ⟨o1, o2, o3⟩ := bF ho.2
  have e1 := oj hp hL hR m1
  have e2 := oj hp hL hR m2
  show smC (fun x => (chg f n x + (if (f n).1 = x then 1 else 0)) - (if (f n).2 + 1 = x then 1 else 0)) L = _
  rw [oo (fun x => chg f n x + (if (f n).1 = x then 1 else 0)) (fun x => if (f n).2 + 1 = x then 1 else 0), oe (chg f n) (fun x => if (f n).1 = x then 1 else 0), e1, e2]
  have ih' : smC (chg f n) L = (cov f n p : Int) := ih
  rw [ih']
  simp only [cov, cO, ho.2, Bool.true_and, decide_eq_true_eq]
  by_cases q1 : (f n).1 ≤ p
  ·by_cases q2 : p ≤ (f n).2
   ·rw [if_pos q1, if_neg (by omega), if_pos ⟨q1, q2⟩]; omega
   ·rw [if_pos q1, if_pos (by omega), if_neg (fun h => q2 h.2)]; omega
  ·rw [if_neg q1, if_neg (by omega), if_neg (fun h => q1 h.1)]; omega
theorem ry {f : Nat → Int × Int} {n : Nat} (ho : be f n = true) {j : Nat} (hj : j < (trn f (2 * n)).length) : smC (chg f n) ((trn f (2 * n)).take (j + 1)) = (cov f n ((trn f (2 * n)).getD j 0) : Int) := by
 have ha := ej f (2 * n)
 have hm : ∀ i, i < n → (f i).1 ∈ trn f (2 * n) ∧ (f i).2 + 1 ∈ trn f (2 * n) := fun i hi => ⟨sM hi, qN hi⟩
 generalize trn f (2 * n) = T at *
 have e := List.take_append_drop (j + 1) T
 have hg : T.getD j 0 = T[j] := by simp [hj]
 refine og (R := T.drop (j + 1)) (by rw [e]; exact ha) (fun x hx => ?_) (fun x hx => ?_) ho (by rw [e]; exact hm)
 ·obtain ⟨i, hi, rfl⟩ := List.mem_iff_getElem.1 hx
  have hi' : i < j + 1 := by have := hi; simp at this; omega
  rw [hg, List.getElem_take]
  by_cases q : i = j
  ·subst q; exact Int.le_refl _
  ·exact Int.le_of_lt (List.pairwise_iff_getElem.1 ha i j (by omega) hj (by omega))
 ·obtain ⟨i, hi, rfl⟩ := List.mem_iff_getElem.1 hx
  rw [hg, List.getElem_drop]
  exact List.pairwise_iff_getElem.1 ha _ _ hj (by simp at hi; omega) (by omega)

def bf (k : Int) (s : Bool × Int × List (Int × Int)) (x : Int × Int) : Bool × Int × List (Int × Int) :=
 if k ≤ x.2 ∧ s.1 = false then (true, x.1, s.2.2) else if x.2 < k ∧ s.1 = true then (false, s.2.1, s.2.2 ++ [(s.2.1, x.1 - 1)]) else s
def rst (k : Int) (P : List (Int × Int)) : Bool × Int × List (Int × Int) := P.foldl (bf k) (false, 0, [])
theorem dE (k : Int) (P : List (Int × Int)) (x : Int × Int) : rst k (P ++ [x]) = bf k (rst k P) x := by simp [rst]
theorem jo (k : Int) (P : List (Int × Int)) : (rst k P).2.2.length ≤ P.length := by
 have : ∀ (P : List (Int × Int)) (s : Bool × Int × List (Int × Int)), (P.foldl (bf k) s).2.2.length ≤ s.2.2.length + P.length := by
  intro P
  induction P with
  | nil => intro s; simp
  | cons x P ih =>
   intro s
   have h1 := ih (bf k s x)
   have h2 : (bf k s x).2.2.length ≤ s.2.2.length + 1 := by
    unfold bf; split
    ·simp
    ·split <;> simp
   simp only [List.foldl_cons, List.length_cons]
   omega
 simpa [rst] using this P (false, 0, [])
def trs (f : Nat → Int × Int) (n : Nat) : List (Int × Int) := (trn f (2 * n)).map fun p => (p, (cov f n p : Int))
theorem cx (f : Nat → Int × Int) (n : Nat) : (trs f n).length = (trn f (2 * n)).length := by simp [trs]
def rns (f : Nat → Int × Int) (n : Nat) (k : Int) : List (Int × Int) := (rst k (trs f n)).2.2
theorem ro (f : Nat → Int × Int) (n : Nat) (k : Int) : (rns f n k).length ≤ 2 * n := by
 have h1 := jo k (trs f n)
 have h2 := dH f (2 * n)
 rw [cx] at h1
 simp only [rns]
 omega
def sps (k : Int) (T : List Int) (P : List (Int × Int)) (j : Nat) : List (Int × Int) :=
 if (rst k (P.take j)).1 then (rst k (P.take j)).2.2 ++ [((rst k (P.take j)).2.1, T.getD j 0 - 1)] else (rst k (P.take j)).2.2
def rOk (s : Bool × Int × List (Int × Int)) (p : Int) : Prop := (s.1 = true → s.2.1 ≤ p) ∧ (∀ r, r ∈ s.2.2 → r.2 + 1 ≤ p ∧ r.1 ≤ r.2 ∧ (s.1 = true → r.2 + 1 < s.2.1)) ∧ s.2.2.Pairwise (fun a b => a.2 + 1 < b.1)
theorem lv {k p : Int} {s : Bool × Int × List (Int × Int)} {x : Int × Int} (h : rOk s p) (hx : p < x.1) : rOk (bf k s x) x.1 := by
 obtain ⟨h1, h2, h3⟩ := h
 unfold bf
 split
 ·refine ⟨fun _ => Int.le_refl _, fun r hr => ?_, h3⟩
  have ⟨a, b, _⟩ := h2 r hr
  exact ⟨by omega, b, fun _ => by show r.2 + 1 < x.1; omega⟩
 ·split
  ·next hc =>
   refine ⟨fun h => by simp at h, fun r hr => ?_, ?_⟩
   ·simp only [List.mem_append, List.mem_singleton] at hr
    rcases hr with hr | rfl
    ·have ⟨a, b, _⟩ := h2 r hr
     exact ⟨by omega, b, fun h => by simp at h⟩
    ·have := h1 hc.2
     exact ⟨by show x.1 - 1 + 1 ≤ x.1; omega, by show s.2.1 ≤ x.1 - 1; omega, fun h => by simp at h⟩
   ·refine List.pairwise_append.2 ⟨h3, List.pairwise_singleton _ _, fun r hr q hq => ?_⟩
    simp only [List.mem_singleton] at hq
    subst hq
    exact (h2 r hr).2.2 hc.2
  ·refine ⟨fun h => by have := h1 h; omega, fun r hr => ?_, h3⟩
   have ⟨a, b, c⟩ := h2 r hr
   exact ⟨by omega, b, c⟩
theorem sC {s : Bool × Int × List (Int × Int)} {p q : Int} (h : rOk s p) (hq : p ≤ q) : rOk s q := by
 obtain ⟨h1, h2, h3⟩ := h
 exact ⟨fun h => by have := h1 h; omega, fun r hr => by have ⟨a, b, c⟩ := h2 r hr; exact ⟨by omega, b, c⟩, h3⟩
theorem cR {α : Type} (P : List α) {j : Nat} (hj : j < P.length) (z : α) : P.take (j + 1) = P.take j ++ [P.getD j z] := by
 rw [List.take_add_one, List.getElem?_eq_getElem hj]
 simp [hj]
section
variable {f : Nat → Int × Int} {n : Nat} {k : Int}
theorem gD {j : Nat} (hj : j < (trn f (2 * n)).length) : (trs f n).getD j (0, 0) = ((trn f (2 * n)).getD j 0, (cov f n ((trn f (2 * n)).getD j 0) : Int)) := by
 simp [trs, hj]
theorem nv {f : Nat → Int × Int} {m i j : Nat} (hij : i < j) (hj : j < (trn f m).length) : (trn f m).getD i 0 < (trn f m).getD j 0 := by
 have := List.pairwise_iff_getElem.1 (ej f m) i j (by omega) hj hij
 have hi : i < (trn f m).length := by omega
 simpa [hi, hj] using this
theorem mM : ∀ {j : Nat}, j < (trn f (2 * n)).length → rOk (rst k ((trs f n).take (j + 1))) ((trn f (2 * n)).getD j 0)
 | 0, hj => by
  have h0 : 0 < (trs f n).length := by rw [cx]; exact hj
  rw [cR _ h0 (0, 0), dE, gD hj]
  exact lv (p := (trn f (2 * n)).getD 0 0 - 1) ⟨fun h => by simp [rst] at h, fun r hr => by simp [rst] at hr, by simp [rst]⟩ (by simp only; omega)
 | j + 1, hj => by
  have h0 : j + 1 < (trs f n).length := by rw [cx]; exact hj
  rw [cR _ h0 (0, 0), dE, gD hj]
  exact lv (mM (j := j) (by omega)) (nv (by omega) hj)
theorem lK : sps k (trn f (2 * n)) (trs f n) 0 = [] := by simp [sps, rst]
theorem rt {j : Nat} (hj : j < (trn f (2 * n)).length) (hc : (cov f n ((trn f (2 * n)).getD j 0) : Int) < k) : sps k (trn f (2 * n)) (trs f n) (j + 1) = sps k (trn f (2 * n)) (trs f n) j := by
 have h0 : j < (trs f n).length := by rw [cx]; exact hj
 have e : rst k ((trs f n).take (j + 1)) = bf k (rst k ((trs f n).take j)) ((trn f (2 * n)).getD j 0, (cov f n ((trn f (2 * n)).getD j 0) : Int)) := by rw [cR _ h0 (0, 0), dE, gD hj]
 unfold sps
 rw [e]
 generalize rst k ((trs f n).take j) = s
 obtain ⟨s1, s2, s3⟩ := s
 cases s1
 ·have : bf k (false, s2, s3) ((trn f (2 * n)).getD j 0, (cov f n ((trn f (2 * n)).getD j 0) : Int)) = (false, s2, s3) := by
   unfold bf; rw [if_neg (by simp only; omega), if_neg (by simp)]
  rw [this]; rfl
 ·have : bf k (true, s2, s3) ((trn f (2 * n)).getD j 0, (cov f n ((trn f (2 * n)).getD j 0) : Int)) = (false, s2, s3 ++ [(s2, (trn f (2 * n)).getD j 0 - 1)]) := by
   unfold bf; rw [if_neg (by simp), if_pos ⟨hc, rfl⟩]
  rw [this]; rfl
theorem sG {j : Nat} (hj : j + 1 < (trn f (2 * n)).length) (hc : ¬ (cov f n ((trn f (2 * n)).getD j 0) : Int) < k) :
 (∃ L a, sps k (trn f (2 * n)) (trs f n) j = L ++ [(a, (trn f (2 * n)).getD j 0 - 1)] ∧ sps k (trn f (2 * n)) (trs f n) (j + 1) = L ++ [(a, (trn f (2 * n)).getD (j + 1) 0 - 1)]) ∨
 ((∀ r, r ∈ sps k (trn f (2 * n)) (trs f n) j → r.2 + 1 < (trn f (2 * n)).getD j 0) ∧ sps k (trn f (2 * n)) (trs f n) (j + 1) = sps k (trn f (2 * n)) (trs f n) j ++ [((trn f (2 * n)).getD j 0, (trn f (2 * n)).getD (j + 1) 0 - 1)]) := by
 have h0 : j < (trs f n).length := by rw [cx]; omega
 have e : rst k ((trs f n).take (j + 1)) = bf k (rst k ((trs f n).take j)) ((trn f (2 * n)).getD j 0, (cov f n ((trn f (2 * n)).getD j 0) : Int)) := by rw [cR _ h0 (0, 0), dE, gD (by omega)]
 have hok : rOk (rst k ((trs f n).take j)) ((trn f (2 * n)).getD j 0 - 1) := by
  cases j with
  | zero => exact ⟨fun h => by simp [rst] at h, fun r hr => by simp [rst] at hr, by simp [rst]⟩
  | succ j => exact sC (mM (by omega)) (by have := nv (f := f) (m := 2 * n) (i := j) (j := j + 1) (by omega) (by omega); omega)
 unfold sps
 rw [e]
 generalize rst k ((trs f n).take j) = s at *
 obtain ⟨s1, s2, s3⟩ := s
 cases s1
 ·right
  have : bf k (false, s2, s3) ((trn f (2 * n)).getD j 0, (cov f n ((trn f (2 * n)).getD j 0) : Int)) = (true, (trn f (2 * n)).getD j 0, s3) := by
   unfold bf; rw [if_pos ⟨by simp only; omega, rfl⟩]
  rw [this]
  refine ⟨fun r hr => ?_, rfl⟩
  have := (hok.2.1 r hr).1
  omega
 ·left
  have : bf k (true, s2, s3) ((trn f (2 * n)).getD j 0, (cov f n ((trn f (2 * n)).getD j 0) : Int)) = (true, s2, s3) := by
   unfold bf; rw [if_neg (by simp), if_neg (by simp only; omega)]
  rw [this]
  exact ⟨s3, s2, rfl, rfl⟩
theorem pO {x : Int} (h : ∀ i, i < n → (f i).2 < x) : cov f n x = 0 := by
 induction n with
 | zero => rfl
 | succ n ih =>
  have h1 := h n (by omega)
  simp only [cov, ih (fun i hi => h i (by omega))]
  rw [if_neg]
  simp only [cO, Bool.and_eq_true, decide_eq_true_eq]
  omega
theorem rz {j : Nat} (hj : j + 1 = (trn f (2 * n)).length) : cov f n ((trn f (2 * n)).getD j 0) = 0 := by
 refine pO fun i hi => ?_
 have hm := qN (f := f) hi
 obtain ⟨q, hq, e⟩ := List.mem_iff_getElem.1 hm
 have : (trn f (2 * n)).getD q 0 = (f i).2 + 1 := by simp [hq, e]
 by_cases c : q = j
 ·subst c; omega
 ·have := nv (f := f) (m := 2 * n) (i := q) (j := j) (by omega) (by omega)
  omega
theorem rq (h1 : 1 ≤ k) {j : Nat} (hj : j + 1 = (trn f (2 * n)).length) : sps k (trn f (2 * n)) (trs f n) j = rns f n k := by
 have h0 : j < (trs f n).length := by rw [cx]; omega
 have e : rst k ((trs f n).take (j + 1)) = bf k (rst k ((trs f n).take j)) ((trn f (2 * n)).getD j 0, (cov f n ((trn f (2 * n)).getD j 0) : Int)) := by rw [cR _ h0 (0, 0), dE, gD (by omega)]
 have ht : (trs f n).take (j + 1) = trs f n := List.take_of_length_le (by rw [cx]; omega)
 rw [ht, rz hj] at e
 unfold rns sps
 rw [e]
 generalize rst k ((trs f n).take j) = s
 obtain ⟨s1, s2, s3⟩ := s
 have hk : ¬ k ≤ 0 := by omega
 have hk' : (0 : Int) < k := by omega
 cases s1 <;> simp [bf, hk, hk']
theorem ly (h : trn f (2 * n) = []) : rns f n k = [] := by simp [rns, trs, h, rst]
theorem qG (ho : be f n = true) : (rns f n k).Pairwise (fun a b => a.2 + 1 < b.1) ∧ ∀ r, r ∈ rns f n k → okI r.1 r.2 = true := by
 have hin : ∀ x, x ∈ trs f n → -1000000000000 ≤ x.1 ∧ x.1 ≤ 1000000000001 := fun x hx => by
  obtain ⟨p, hp, rfl⟩ := List.mem_map.1 hx
  exact eL ho hp
 have hlow : ∀ (P : List (Int × Int)) (s : Bool × Int × List (Int × Int)), (∀ x, x ∈ P → -1000000000000 ≤ x.1 ∧ x.1 ≤ 1000000000001) → ((s.1 = true → -1000000000000 ≤ s.2.1) ∧ ∀ r, r ∈ s.2.2 → -1000000000000 ≤ r.1 ∧ r.2 ≤ 1000000000000) → ∀ r, r ∈ (P.foldl (bf k) s).2.2 → -1000000000000 ≤ r.1 ∧ r.2 ≤ 1000000000000 := by
  intro P
  induction P with
  | nil => intro s _ h; exact h.2
  | cons x P ih =>
   intro s hP h
   refine ih (bf k s x) (fun y hy => hP y (List.mem_cons_of_mem _ hy)) ?_
   have hx := hP x List.mem_cons_self
   unfold bf
   split
   ·exact ⟨fun _ => hx.1, h.2⟩
   ·split
    ·next hc =>
     refine ⟨fun h => by simp at h, fun r hr => ?_⟩
     simp only [List.mem_append, List.mem_singleton] at hr
     rcases hr with hr | rfl
     ·exact h.2 r hr
     ·exact ⟨h.1 hc.2, by simp only; omega⟩
    ·exact h
 have hl := hlow (trs f n) (false, 0, []) hin ⟨fun h => by simp at h, fun r hr => by simp at hr⟩
 by_cases h0 : trn f (2 * n) = []
 ·rw [ly h0]; exact ⟨List.Pairwise.nil, fun r hr => by simp at hr⟩
 ·have hp : 0 < (trn f (2 * n)).length := List.length_pos_iff.2 h0
  have hok := mM (f := f) (n := n) (k := k) (j := (trn f (2 * n)).length - 1) (by omega)
  rw [List.take_of_length_le (by rw [cx]; omega)] at hok
  refine ⟨hok.2.2, fun r hr => decide_eq_true ⟨(hok.2.1 r hr).2.1, hl r hr⟩⟩
end
end Go.Proofs.YtikbjljkakabdaaGreat
namespace Go.Proofs.YtikbjljkakabdaaGreat
open Go.RowKit
set_option linter.unusedVariables false
set_option maxRecDepth 100000
set_option maxHeartbeats 16000000
theorem iE {f : Nat → Int × Int} {n : Nat} (h : 12 < n) : ba f n = false := by simp [ba]; omega
theorem ot {f : Nat → Int × Int} {n : Nat} (h : n ≤ 12) : ba f n = be f n := by simp [ba, h]
theorem bC {f : Nat → Int × Int} {n : Nat} (h : ba f n = true) : n ≤ 12 ∧ be f n = true := by simpa [ba] using h
theorem rd (a : Option Addr) (n c : Nat) (f : Nat → Int × Int) (w : World) (hm : n ≤ maxLen) (hs : Src w a n f) :
 Calls Tryz.prog 139 #[.slice a n c, .int .i64 12] w fun e w' => e = .returned (.bool (ba f n)) ∧ Below w.heap.size w w' := by
 unfold maxLen at hm
 by_cases h12 : 12 < n
 ·rw [iE h12]
  have hd : decide (12 < (n : Int)) = true := by simp; omega
  go_enter Tryz.func139, Tryz.ntmps139
  go_wp2_with fail
  go_ret
  exact ⟨rfl, Below.refl _ _⟩
 ·rw [ot (by omega)]
  have hd : decide (12 < (n : Int)) = false := by simp; omega
  have HS : Hid (Src w a n f) := hs
  clear hs
  go_enter Tryz.func139, Tryz.ntmps139
  go_wp2_with fail
  go_loopw [5] (fun i wr => ∃ k : Nat, k ≤ n ∧ i = .int .i64 k ∧ be f k = true ∧ Below w.heap.size w wr) (fun i _ => n - (intOf i).toNat)
  case atStart => exact ⟨0, Nat.zero_le _, rfl, rfl, Below.refl _ _⟩
  case round =>
   obtain ⟨k, hk, rfl, hall, hB⟩ := hrel
   have HA : Hid (be f k = true) := hall
   clear hall
   by_cases hlt : k < n
   ·rcases HS.out.below hB with h0 | ⟨b, off, rfl, hp⟩
    ·omega
    have c0 : wr.cell? ⟨b, off + k * 2, none⟩ = some (.int .i64 (f k).1) := (hp.2 k hlt).1
    have c1 : wr.cell? ⟨b, off + k * 2 + 1, none⟩ = some (.int .i64 (f k).2) := (hp.2 k hlt).2
    have hsz := hB.size
    clear hp
    cases hok : okI (f k).1 (f k).2
    ·have HN : Hid (be f n = false) := fI hok n hlt
     go_wp2_with (first | (go_at_call 79; refine (ao _ _ _).mono ?_; rintro e w' ⟨rfl, hb⟩))
     go_ret
     exact ⟨ab HN.out.symm, hB.trans (hb.mono hsz)⟩
    ·go_wp2_with (first | (go_at_call 79; refine (ao _ _ _).mono ?_; rintro e w' ⟨rfl, hb⟩))
     go_roundw
     case rel => exact ⟨k + 1, by omega, by go_num, by simp [be, HA.out, hok], hB.trans (hb.mono hsz)⟩
     case measure => simp [intOf]; omega
   ·go_wp2_with fail
    go_ret
    exact ⟨ab (by rw [← HA.out]; congr 1; omega), hB⟩
theorem aI (a : Option Addr) (n c : Nat) (f : Nat → Int × Int) (w : World) (hm : n ≤ maxLen) (hs : Src w a n f) :
 Calls Tryz.prog 102 #[.slice a n c] w fun e w' => e = .returned (.bool (ba f n)) ∧ Below w.heap.size w w' := by
 go_enter Tryz.func102, Tryz.ntmps102
 go_wp2_with fail
 refine (rd a n c f _ hm hs).mono ?_
 rintro e w1 ⟨rfl, hb⟩
 go_wp2_with fail
 go_ret
 exact ⟨rfl, hb⟩
theorem Below.al9 (w : World) (o : Obj) : Below w.heap.size w (w.alloc o) := (Below.refl _ _).alloc (Nat.le_refl _) _
theorem aO (a : Option Addr) (n c : Nat) (f : Nat → Int × Int) (w : World) (hm : n ≤ maxLen) (hs : Src w a n f) :
 Calls Tryz.prog 146 #[.slice a n c] w fun e w' => e = .returned (.bool (ba f n)) ∧ Below w.heap.size w w' := by
 unfold maxLen at hm
 by_cases h12 : 12 < n
 ·rw [iE h12]
  have hd : decide (12 < (n : Int)) = true := by simp; omega
  go_enter Tryz.func146, Tryz.ntmps146
  go_wp2_with fail
  go_ret
  exact ⟨rfl, Below.refl _ _⟩
 ·rw [ot (by omega)]
  have hd : decide (12 < (n : Int)) = false := by simp; omega
  have HS : Hid (Src w a n f) := hs
  clear hs
  go_enter Tryz.func146, Tryz.ntmps146
  go_wp2_with fail
  go_loopw [10] (fun i wr => ∃ k : Nat, k ≤ n ∧ i = .int .i64 k ∧ be f k = true ∧ Below w.heap.size w wr) (fun i _ => n - (intOf i).toNat)
  case atStart => exact ⟨0, Nat.zero_le _, rfl, rfl, Below.refl _ _⟩
  case round =>
   obtain ⟨k, hk, rfl, hall, hB⟩ := hrel
   have HA : Hid (be f k = true) := hall
   clear hall
   by_cases hlt : k < n
   ·rcases HS.out.below hB with h0 | ⟨b, off, rfl, hp⟩
    ·omega
    have hli : (k : Int) < (n : Int) := by omega
    have c0 : wr.cell? ⟨b, off + k * 2, none⟩ = some (.int .i64 (f k).1) := (hp.2 k hlt).1
    have c1 : wr.cell? ⟨b, off + k * 2 + 1, none⟩ = some (.int .i64 (f k).2) := (hp.2 k hlt).2
    have B1 := hB.trans ((Below.al9 wr (.cells #[.int .i64 (f k).1, .int .i64 (f k).2] 47)).mono hB.size)
    clear hp hB
    cases hok : okI (f k).1 (f k).2
    ·have HN : Hid (be f n = false) := fI hok n hlt
     go_wp2_with (first | (go_at_call 136; refine (bB _ _ _).mono ?_; rintro e w' ⟨rfl, hb⟩))
     go_ret
     exact ⟨ab HN.out.symm, B1.trans (hb.mono B1.size)⟩
    ·go_wp2_with (first | (go_at_call 136; refine (bB _ _ _).mono ?_; rintro e w' ⟨rfl, hb⟩))
     go_roundw
     case rel => exact ⟨k + 1, by omega, by go_num, by simp [be, HA.out, hok], B1.trans (hb.mono B1.size)⟩
     case measure => simp [intOf]; omega
   ·have hli : ¬ (k : Int) < (n : Int) := by omega
    go_wp2_with fail
    go_ret
    exact ⟨ab (by rw [← HA.out]; congr 1; omega), hB⟩
theorem cvI_f {f : Nat → Int × Int} {n : Nat} (h : ba f n = false) (t : Int) : cvI f n t = 0 := by simp [cvI, h]
theorem rE {f : Nat → Int × Int} {n : Nat} (h : ba f n = true) (t : Int) : cvI f n t = (cov f n t : Int) := by simp [cvI, h]
theorem qY {f : Nat → Int × Int} {k : Nat} {t : Int} (h : cO (f k).1 (f k).2 t = true) : cov f (k + 1) t = cov f k t + 1 := by simp [cov, h]
theorem r7 {f : Nat → Int × Int} {k : Nat} {t : Int} (h : cO (f k).1 (f k).2 t = false) : cov f (k + 1) t = cov f k t := by simp [cov, h]
theorem lD (a : Option Addr) (n c : Nat) (f : Nat → Int × Int) (t : Int) (w : World) (hm : n ≤ maxLen) (hs : Src w a n f) :
 Calls Tryz.prog 178 #[.slice a n c, .int .i64 t] w fun e w' => e = .returned (.int .i64 (cvI f n t)) ∧ Below w.heap.size w w' := by
 have HS : Hid (Src w a n f) := hs
 have CS := fun (v : World) (h : Below w.heap.size w v) => aI a n c f v hm (HS.out.below h)
 clear hs
 unfold maxLen at hm
 by_cases h0 : n = 0
 ·subst h0
  have hz : Hid (cvI f 0 t = 0) := by simp [Hid, cvI, cov]
  rw [hz.out]
  go_enter Tryz.func178, Tryz.ntmps178
  go_wp2_with fail
  go_loopw [5, 6] (fun s i wr => s = .int .i64 0 ∧ i = .int .i64 0 ∧ Below w.heap.size w wr) (fun _ i _ => 0)
  case atStart => exact ⟨rfl, rfl, Below.refl _ _⟩
  case round =>
   obtain ⟨rfl, rfl, hB⟩ := hrel
   go_wp2_with fail
   go_ret
   exact ⟨rfl, hB⟩
 ·cases hsb : ba f n
  ·have hz : Hid (cvI f n t = 0) := cvI_f hsb t
   rw [hz.out]
   have hpos : (0 : Int) < (n : Int) := by omega
   go_enter Tryz.func178, Tryz.ntmps178
   go_wp2_with fail
   go_loopw [5, 6] (fun s i wr => s = .int .i64 0 ∧ i = .int .i64 0 ∧ Below w.heap.size w wr) (fun _ i _ => 0)
   case atStart => exact ⟨rfl, rfl, Below.refl _ _⟩
   case round =>
    obtain ⟨rfl, rfl, hB⟩ := hrel
    go_wp2_with fail
    refine (CS _ hB).mono ?_
    rintro e w1 ⟨rfl, hb⟩
    rw [hsb]
    go_wp2_with fail
    go_ret
    exact ⟨rfl, hB.trans (hb.mono hB.size)⟩
  ·have hz : Hid (cvI f n t = (cov f n t : Int)) := rE hsb t
   rw [hz.out]
   have HB : Hid (ba f n = true) := hsb
   have hn : n ≤ 12 := (bC hsb).1
   clear hsb hm
   go_enter Tryz.func178, Tryz.ntmps178
   go_wp2_with fail
   go_loopw [5, 6] (fun s i wr => ∃ k : Nat, k ≤ n ∧ s = .int .i64 (cov f k t : Int) ∧ i = .int .i64 k ∧ Below w.heap.size w wr) (fun _ i _ => n - (intOf i).toNat)
   case atStart => exact ⟨0, Nat.zero_le _, rfl, rfl, Below.refl _ _⟩
   case round =>
    obtain ⟨k, hk, rfl, rfl, hB⟩ := hrel
    by_cases hlt : k < n
    ·have hli : (k : Int) < (n : Int) := by omega
     go_wp2_with fail
     refine (CS _ hB).mono ?_
     rintro e w1 ⟨rfl, hb⟩
     rw [HB.out]
     have B1 := hB.trans (hb.mono hB.size)
     clear hb hB
     rcases HS.out.below B1 with h0 | ⟨b, off, rfl, hp⟩
     ·omega
     have c0 : w1.cell? ⟨b, off + k * 2, none⟩ = some (.int .i64 (f k).1) := (hp.2 k hlt).1
     have c1 : w1.cell? ⟨b, off + k * 2 + 1, none⟩ = some (.int .i64 (f k).2) := (hp.2 k hlt).2
     have hcl := iM f t k
     clear hp
     go_wp2_with fail
     refine (hO _ _ _ _).mono ?_
     rintro e w2 ⟨rfl, hb⟩
     have B2 := B1.trans (hb.mono B1.size)
     clear hb
     cases hh : cO (f k).1 (f k).2 t
     ·have E := r7 hh
      go_wp2_with fail
      go_roundw
      case rel => exact ⟨k + 1, by omega, by rw [E], by go_num, B2⟩
      case measure => simp [intOf]; omega
     ·have E := qY hh
      go_wp2_with fail
      go_roundw
      case rel => exact ⟨k + 1, by omega, by rw [E]; go_num, by go_num, B2⟩
      case measure => simp [intOf]; omega
    ·have hkn : k = n := by omega
     subst hkn
     have hli : ¬ (k : Int) < (k : Int) := by omega
     go_wp2_with fail
     go_ret
     exact ⟨rfl, hB⟩
end Go.Proofs.YtikbjljkakabdaaGreat
