/- Which worlds are right. A new world as data; a plan copied. -/
import Derived.Laws.Tables
import Derived.Test.YtddijpjgkifngaaGreatMN29
namespace Go.Proofs.YtddijpjgkifngaaGreat
open Go.RowKit
set_option linter.unusedVariables false
set_option maxRecDepth 100000
set_option maxHeartbeats 16000000
def ax (f : Nat → Bool) : Nat → Bool
 | 0 => true
 | k + 1 => ax f k && f k
theorem aF {f : Nat → Bool} {k : Nat} (h : f k = false) : ∀ n, k < n → ax f n = false
 | 0, hk => absurd hk (Nat.not_lt_zero _)
 | n + 1, hk => by
  rw [ax]
  by_cases e : k = n
  ·subst e; rw [h]; simp
  ·rw [aF h n (by omega)]; rfl
theorem bZ {f : Nat → Bool} : ∀ {n : Nat}, ax f n = true → ∀ i, i < n → f i = true
 | 0, _, i, hi => absurd hi (Nat.not_lt_zero _)
 | n + 1, h, i, hi => by
  rw [ax, Bool.and_eq_true] at h
  by_cases e : i = n
  ·subst e; exact h.2
  ·exact bZ h.1 i (by omega)
theorem bg {f : Nat → Bool} {k : Nat} (h : ax f k = true) (hf : f k = true) : ax f (k + 1) = true := by rw [ax, h, hf]; rfl
def bH (x : WdX) (i : Nat) : Bool := okX (x.XM i) && (decide ((x.XM i).ni = (i : Int)) && cmX (x.XM i) (x.CM i))
def cl (x : WdX) (z : Int) : Bool := decide (0 ≤ z ∧ z < (x.nn : Int))
def bl (x : WdX) (i : Nat) : Bool := cl x (x.FM i).2.1 && (cl x (x.FM i).2.2.1 && decide ((x.FM i).2.2.2.2 ≤ x.ti))
def bu (x : WdX) (i : Nat) : Bool := cl x (x.BM i).1 && decide ((x.BM i).2.2.2.1 ≤ x.ti)
def aZ (x : WdX) : Bool := decide (1 ≤ x.nn ∧ x.nn ≤ 8) && (decide (x.nl = x.nn) && (decide (x.nc = x.nn) && ax (bH x) x.nn))
def bG (x : WdX) : Bool := ax (bl x) x.nf && aH x.nx x.FM x.nf
def bN (x : WdX) : Bool := ax (bu x) x.nb && buB x.BM x.nb
def aT (x : WdX) : Bool := dp x.y && (okT x.ti && (aZ x && (bG x && bN x)))
theorem iK {nx : Int} {M : Nat → FT} : ∀ {n : Nat}, nOk nx M n = true → ∀ i, i < n → flT (M i) = true
 | 0, _, i, hi => absurd hi (Nat.not_lt_zero _)
 | n + 1, h, i, hi => by
  rw [nOk, Bool.and_eq_true, Bool.and_eq_true, Bool.and_eq_true] at h
  by_cases e : i = n
  ·subst e; exact h.2.1.1
  ·exact iK h.1 i (by omega)
theorem j8 {nx : Int} {M : Nat → FT} {n i : Nat} (h : aH nx M n = true) (hi : i < n) : 0 ≤ (M i).2.1 ∧ 0 ≤ (M i).2.2.1 := by
 rw [aH, Bool.and_eq_true] at h
 have q := iK h.2 i hi
 rw [flT, flB, Bool.and_eq_true, Bool.and_eq_true, Bool.and_eq_true] at q
 exact ⟨(of_decide_eq_true q.1.1.1).1, (of_decide_eq_true q.1.1.2).1⟩
theorem iF {M : Nat → FrT} : ∀ {n : Nat}, buA M n = true → ∀ i, i < n → frM (M i) = true
 | 0, _, i, hi => absurd hi (Nat.not_lt_zero _)
 | n + 1, h, i, hi => by
  rw [buA, Bool.and_eq_true, Bool.and_eq_true] at h
  by_cases e : i = n
  ·subst e; exact h.2.1
  ·exact iF h.1 i (by omega)
theorem jY {M : Nat → FrT} {n i : Nat} (h : buB M n = true) (hi : i < n) : 0 ≤ (M i).1 := by
 rw [buB, Bool.and_eq_true] at h
 have q := iF h.2 i hi
 rw [frM, frB, Bool.and_eq_true] at q
 exact (of_decide_eq_true q.1).1
theorem iz {x : WdX} (h : aT x = true) : dp x.y = true ∧ okT x.ti = true ∧ (1 ≤ x.nn ∧ x.nn ≤ 8) ∧ x.nl = x.nn ∧ x.nc = x.nn ∧ (∀ i, i < x.nn → bH x i = true) ∧ (∀ i, i < x.nf → bl x i = true) ∧ aH x.nx x.FM x.nf = true ∧ (∀ i, i < x.nb → bu x i = true) ∧ buB x.BM x.nb = true := by
 unfold aT aZ bG bN at h
 simp only [Bool.and_eq_true] at h
 obtain ⟨h1, h2, ⟨h3, h4, h5, h6⟩, ⟨h7, h8⟩, h9, h10⟩ := h
 exact ⟨h1, h2, of_decide_eq_true h3, of_decide_eq_true h4, of_decide_eq_true h5, bZ h6, bZ h7, h8, bZ h9, h10⟩
def nwX (y : CfX) (n : Nat) (LB : Nat → Bool) : WdX := ⟨y, LB, n, 0, fun _ => 0, n, nzX, n, 0, fun _ => (0, 0, 0, ⟨#[]⟩, 0), 0, fun _ => (0, 0, 0, 0, 0, ⟨#[]⟩), 0⟩
def zwX : WdX := nwX ⟨0, 0, 0, 0, 0, 0, 0, 0, 0, 0, fun _ => (0, 0), 0⟩ 0 (fun _ => false)
def nwB (y : CfX) (n : Nat) (LB : Nat → Bool) : Bool := decide (n ≤ 8) && aT (nwX y n LB)
def nwO (y : CfX) (n : Nat) (LB : Nat → Bool) : WdX := match nwB y n LB with | true => nwX y n LB | false => zwX
theorem jI (y : CfX) (n : Nat) (LB : Nat → Bool) : txW (nwX y n LB) := ⟨fun i hi => absurd hi (Nat.not_lt_zero _), fun i hi => absurd hi (Nat.not_lt_zero _)⟩
theorem jX (w : World) : WdW w #[.int .i64 0, .int .i64 0, .int .i64 0, .int .i64 0, .int .i64 0, .int .i64 0, .int .i64 0, .int .i64 0, .int .i64 0, .int .i64 0, .slice none 0 0, .slice none 0 0, .int .i64 0, .slice none 0 0, .slice none 0 0, .int .i64 0, .slice none 0 0, .slice none 0 0] zwX :=
 ⟨none, 0, none, 0, none, 0, none, 0, none, 0, none, 0, rfl, ⟨Nat.zero_le _, Nat.zero_le _, Nat.zero_le _, Nat.zero_le _, Nat.zero_le _, Nat.zero_le _⟩, .inl rfl, .inl rfl, .inl rfl, .inl rfl, .inl rfl, .inl rfl⟩
theorem fm {w : World} {y : CfX} {n : Nat} {LB : Nat → Bool} {p la ca na : Option Addr} {d lc cc nk : Nat} (hm : y.m ≤ 1048576) (hn : n ≤ 1048576) (h1 : ae w p (y.m * 2) (ak y.PM)) (h2 : ae w la (n * 1) (boG LB)) (h3 : ae w ca (n * 1) (itG fun _ => 0)) (h4 : ae w na (n * 16) nzF) :
 WdW w #[.int .i64 y.dn, .int .i64 y.dd, .int .i64 y.li, .int .i64 y.le, .int .i64 y.pt, .int .i64 y.ag, .int .i64 y.ke, .int .i64 y.lg, .int .i64 y.s, .int .i64 y.g, .slice p y.m d, .slice la n lc, .int .i64 0, .slice ca n cc, .slice na n nk, .int .i64 0, .slice none 0 0, .slice none 0 0] (nwX y n LB) := by
 have hx : (1048576 : Nat) ≤ maxLen := by decide
 rw [Nat.mul_one] at h2 h3
 exact ⟨p, d, la, lc, ca, cc, na, nk, none, 0, none, 0, rfl, ⟨Nat.le_trans hm hx, Nat.le_trans hn hx, Nat.le_trans hn hx, Nat.le_trans hn hx, Nat.zero_le _, Nat.zero_le _⟩, h1, h2, h3, (nz_rw h4).weak, .inl rfl, .inl rfl⟩
theorem bn {P : Program} {a : Act} {o : Oper} {w : World} (t : TypeId) (parts : Array (Nat × Operand)) (vs : List (Nat × Value)) (cells : Array Value) (hb : P.built t vs = some cells) (ho : o.op = .build t parts) (hp : parts.toList.map (fun (q : Nat × Operand) => (q.1, a.eval q.2)) = vs) : (execOp a.eval o).run P w = .ok (.value (.agg cells)) w := by
 have hc : P.built t (parts.map fun (i, x) => (i, a.eval x)).toList = some cells := by
  rw [Array.toList_map]
  show P.built t (parts.toList.map fun (q : Nat × Operand) => (q.1, a.eval q.2)) = some cells
  rw [hp]
  exact hb
 unfold execOp
 simp only [ho, Sem.run_bind, run_build w t _ cells hc, Result.andThen_ok]
 rfl
theorem iN (i : Int) : Array.foldl (fun (cs : Array Value) (x : Value × Nat) => cs.setIfInBounds x.snd x.fst) #[.int .i64 0, .int .i64 0, .int .i64 0, .int .i64 0, .bool false, .int .i64 0, .int .i64 0, .int .i64 0, .int .i64 0, .int .i64 0, .slice none 0 0, .slice none 0 0, .bool false, .int .i64 0, .slice none 0 0, .int .i64 0] (nzA i).zipIdx 0 16 = nzA i := by
 unfold nzA ndV
 simp [Array.zipIdx]
theorem dm (y : CfX) (p la : Option Addr) (d n c : Nat) : Tryz.prog.built 52 [(0, .agg #[.int .i64 y.dn, .int .i64 y.dd, .int .i64 y.li, .int .i64 y.le, .int .i64 y.pt, .int .i64 y.ag, .int .i64 y.ke, .int .i64 y.lg, .int .i64 y.s, .int .i64 y.g, .slice p y.m d]), (1, .slice la n c)] = some #[.int .i64 y.dn, .int .i64 y.dd, .int .i64 y.li, .int .i64 y.le, .int .i64 y.pt, .int .i64 y.ag, .int .i64 y.ke, .int .i64 y.lg, .int .i64 y.s, .int .i64 y.g, .slice p y.m d, .slice la n c, .int .i64 0, .slice none 0 0, .slice none 0 0, .int .i64 0, .slice none 0 0, .slice none 0 0] := by kernel_rfl
theorem fI (y : CfX) (p la ca : Option Addr) (d n c cc : Nat) : Tryz.prog.built 52 [(0, .agg #[.int .i64 y.dn, .int .i64 y.dd, .int .i64 y.li, .int .i64 y.le, .int .i64 y.pt, .int .i64 y.ag, .int .i64 y.ke, .int .i64 y.lg, .int .i64 y.s, .int .i64 y.g, .slice p y.m d]), (1, .slice la n c), (3, .slice ca n cc)] = some #[.int .i64 y.dn, .int .i64 y.dd, .int .i64 y.li, .int .i64 y.le, .int .i64 y.pt, .int .i64 y.ag, .int .i64 y.ke, .int .i64 y.lg, .int .i64 y.s, .int .i64 y.g, .slice p y.m d, .slice la n c, .int .i64 0, .slice ca n cc, .slice none 0 0, .int .i64 0, .slice none 0 0, .slice none 0 0] := by kernel_rfl
attribute [-go_sem] loadCells storeCells in
theorem jA (s g : Int) (p : Option Addr) (m d : Nat) (M : Nat → SlT) (w : World) (hm : m ≤ 1048576) (hp : RwO w p m d 2 (ak M)) :
 Calls Tryz.prog 57 #[.agg #[.int .i64 s, .int .i64 g, .slice p m d]] w fun e w' => ∃ a' c', e = .returned (.agg #[.int .i64 s, .int .i64 g, .slice a' m c']) ∧ Rwo w' w.heap.size w'.heap.size 173 2 a' m c' (ak M) ∧ Below w.heap.size w w' := by
 have A0 := Below.nw w (.cells #[.int .i64 s, .int .i64 g, .slice p m d] 43)
 have A1 := Below.nw (w.alloc (.cells #[.int .i64 s, .int .i64 g, .slice p m d] 43)) (.cells #[.int .i64 0, .int .i64 0, .slice none 0 0] 43)
 have N := (Bo.new w #[.int .i64 s, .int .i64 g, .slice p m d] 43).below A1
 have R := Bo.new (w.alloc (.cells #[.int .i64 s, .int .i64 g, .slice p m d] 43)) #[.int .i64 0, .int .i64 0, .slice none 0 0] 43
 have B := A0
 replace B := B.trans (A1.mono B.size)
 simp only [World.size_alloc] at R
 clear A0 A1
 go_enter Tryz.func57, Tryz.ntmps57
 go_upto_region 1 with fail
 generalize ((w.alloc (.cells #[.int .i64 s, .int .i64 g, .slice p m d] 43))).alloc (.cells #[.int .i64 0, .int .i64 0, .slice none 0 0] 43) = v0 at *
 have A := Below.nw v0 (.cells #[] 173)
 have OW : (v0.alloc (.cells #[] 173)).ownsRow v0.heap.size 173 2 (.slice (some ⟨v0.heap.size, 0, none⟩) 0 0) 0 ([] : List Value) := World.ownsRow_made v0 #[] 0 (Nat.le_refl _) (by simp [maxLen]) (by simp)
 have HA : Hid (RwO (v0.alloc (.cells #[] 173)) p m d 2 (ak M)) := hp.below (B.trans (A.mono B.size))
 have hNk : w.heap.size < v0.heap.size := N.1
 have hRk : w.heap.size + 1 < v0.heap.size := R.1
 have hBs : w.heap.size ≤ v0.heap.size := B.size
 replace N := N.below A
 replace R := R.below A
 replace B := B.trans (A.mono hBs)
 have hsz : v0.heap.size ≤ (v0.alloc (.cells #[] 173)).heap.size := A.size
 clear A hp
 have hL0 : (v0.alloc (.cells #[] 173)).cell? ⟨w.heap.size, 2, none⟩ = some (.slice p m d) := N.cell rfl
 go_upto_region 2 with (first | rw [hst] | (at_builtin; refine dq rfl _ _ rfl v0.heap.size M _ rfl OW _ m d rfl HA.out hm hsz ?_; intro v' w9 O9 hg9; (have B9 := az OW hg9 hsz); (obtain ⟨a', c', rfl, -, -, -⟩ := aS O9); (have N9 := N.belowB B9 hNk); (have R9 := R.belowB B9 hRk); (have BB := B.trans (B9.mono hBs)); (have hst := Bo.store (P := Tryz.prog) (b := 2) [.slice a' m c'] 2 0 N9 rfl (show 2 + 1 ≤ 3 by decide) (List.forall_mem_cons.2 ⟨rfl, fun _ h => nomatch h⟩))))
 clear hst hL0 B9 hg9 OW HA N R B
 have P0 := bt O9
 clear O9
 have hb : Btw w.heap.size (w.heap.size + 1) w9 (ah w9 w.heap.size 2 [.slice a' m c']) := af [.slice a' m c'] w9 2 w.heap.size
 replace P0 := P0.btw hb (.inr (by omega))
 have R := R9.btw hb (by omega)
 have N : Bo (ah w9 w.heap.size 2 [.slice a' m c']) w.heap.size #[.int .i64 s, .int .i64 g, .slice a' m c'] := Bo.put [.slice a' m c'] 2 N9
 have B := ai (k := w.heap.size) [.slice a' m c'] w w9 2 BB (Nat.le_refl _)
 clear hb N9 R9 BB
 have P1 := P0
 generalize ah w9 w.heap.size 2 [.slice a' m c'] = v1 at *
 have hL0 := N.load (P := Tryz.prog) (show (#[.int .i64 s, .int .i64 g, .slice a' m c'] : Array Value).size = 3 from rfl)
 have hst := Bo.store (P := Tryz.prog) (b := 0) [.int .i64 s, .int .i64 g, .slice a' m c'] 0 0 R rfl (show 0 + 3 ≤ 3 by decide) (List.forall_mem_cons.2 ⟨rfl, (List.forall_mem_cons.2 ⟨rfl, (List.forall_mem_cons.2 ⟨rfl, fun _ h => nomatch h⟩)⟩)⟩)
 have P2 := P1.btw (af [.int .i64 s, .int .i64 g, .slice a' m c'] v1 0 (w.heap.size + 1)) (.inr (show w.heap.size + 1 + 1 ≤ v0.heap.size by omega))
 have R2 : Bo (ah v1 (w.heap.size + 1) 0 [.int .i64 s, .int .i64 g, .slice a' m c']) (w.heap.size + 1) #[.int .i64 s, .int .i64 g, .slice a' m c'] := Bo.put [.int .i64 s, .int .i64 g, .slice a' m c'] 0 R
 have B2 := ai (k := w.heap.size + 1) [.int .i64 s, .int .i64 g, .slice a' m c'] w v1 0 B (by omega)
 go_wp2_with (first | rw [hL0] | rw [hst])
 clear hst hL0 R B P1
 generalize ah v1 (w.heap.size + 1) 0 [.int .i64 s, .int .i64 g, .slice a' m c'] = v2 at *
 have hL0 := R2.load (P := Tryz.prog) (show (#[.int .i64 s, .int .i64 g, .slice a' m c'] : Array Value).size = 3 from rfl)
 exact bodyPost_ret (v := .agg #[.int .i64 s, .int .i64 g, .slice a' m c']) (by simp [results, Tryz.results57, go_sem]; rw [hL0]; rfl) rfl ⟨_, _, rfl, P2.low hBs, B2⟩
theorem RwK.far {w w' : World} {k s q : Nat} {T : TypeId} {sz : Nat} {a : Option Addr} {n c : Nat} {F : Nat → Value} (h : RwK w k s T sz a n c F) (hb : Btw q (q + 1) w w') (hq : q < s) : RwK w' k s T sz a n c F :=
 ⟨(h.1.btw hb (.inr hq)).wide (Nat.le_refl _) hb.2.2.2.1, h.2⟩
end Go.Proofs.YtddijpjgkifngaaGreat
