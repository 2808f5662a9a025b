/- IvalText: the specification, the program, the walk of the law. Which worlds are right. The words of a look and of a peer (the program). Contracts of Rebase, Learn, Narrow, WidthAt. The words of a node, and how great they are. -/
import Derived.Laws.EntriesVeiled
import Derived.Test.YtddijpjgkifngaaGreatDoorM0
import Derived.Test.YtddijpjgkifngaaGreatDoorM26
import Derived.Test.YtddijpjgkifngaaGreatDoorM33
import Derived.Test.YtddijpjgkifngaaGreatDoorM36
namespace Go.Proofs.YtddijpjgkifngaaGreatDoor
open Go.RowKit
set_option linter.unusedVariables false
def ivT (a b : Int) : ByteArray := txI a ++ ⟨#[46, 46]⟩ ++ txI b
theorem txI_size' (n : Int) : (txI n).size ≤ 21 := by
 have q : ∀ (f K : Nat) (o : ByteArray), (tdS f K o).size ≤ o.size + f := by
  intro f
  induction f with
  | zero => intro K o; simp [tdS]
  | succ f ih =>
   intro K o
   by_cases h : K = 0
   ·subst h; rw [tdS_end]; omega
   ·rw [tdS_go h]
    have q := ih (K / 10) (strOfNums [48 + (K : Int) % 10] ++ o)
    rw [ByteArray.size_append, strOfNums_size] at q
    simp at q
    omega
 have q := q 20 n.natAbs ⟨#[]⟩
 have e0 : (⟨#[]⟩ : ByteArray).size = 0 := rfl
 have e1 : (⟨#[45]⟩ : ByteArray).size = 1 := rfl
 have e2 : (⟨#[48]⟩ : ByteArray).size = 1 := rfl
 unfold txI dgs
 split
 ·omega
 ·split
  ·rw [ByteArray.size_append]; omega
  ·omega
theorem ivT_size (a b : Int) : (ivT a b).size ≤ 44 := by
 have h1 := txI_size' a
 have h2 := txI_size' b
 have e : (⟨#[46, 46]⟩ : ByteArray).size = 2 := rfl
 unfold ivT
 rw [ByteArray.size_append, ByteArray.size_append]
 omega
set_option maxHeartbeats 4000000 in
set_option maxRecDepth 100000 in
theorem specIvalText_any (a b : Int) (w : World) (a0 : -9223372036854775808 ≤ a) (a1 : a ≤ 9223372036854775807) (b0 : -9223372036854775808 ≤ b) (b1 : b ≤ 9223372036854775807) :
 Calls Tryz.prog 25 #[.agg #[.int .i64 a, .int .i64 b]] w fun e w' => e = .returned (.string (ivT a b)) ∧ Below w.heap.size w w' := by
 have B := Below.nw w (.cells #[.int .i64 a, .int .i64 b] 68)
 have q0 : (w.alloc (.cells #[.int .i64 a, .int .i64 b] 68)).cell? ⟨w.heap.size, 0, none⟩ = some (.int .i64 a) := by simp
 have q1 : (w.alloc (.cells #[.int .i64 a, .int .i64 b] 68)).cell? ⟨w.heap.size, 1, none⟩ = some (.int .i64 b) := by simp
 have hlt : w.heap.size < (w.alloc (.cells #[.int .i64 a, .int .i64 b] 68)).heap.size := by simp
 have HX : Hid (ivT a b = txI a ++ ⟨#[46, 46]⟩ ++ txI b) := rfl
 have hza := txI_size' a
 have hzb := txI_size' b
 have CTa := fun (u : World) (_ : True) => specTextOf_any a u a0 a1
 have CTb := fun (u : World) (_ : True) => specTextOf_any b u b0 b1
 generalize ivT a b = X at *
 generalize txI a = sa at *
 generalize txI b = sb at *
 have e2 : (⟨#[46, 46]⟩ : ByteArray).size = 2 := rfl
 have hz1 : (sa ++ ⟨#[46, 46]⟩ : ByteArray).size = sa.size + 2 := by rw [ByteArray.size_append, e2]
 have hl1 : ¬ 9223372036854775807 < sa.size + 2 := by omega
 have hl2 : ¬ 9223372036854775807 < sa.size + 2 + sb.size := by omega
 clear a0 a1 b0 b1 hza hzb
 go_enter Tryz.func25, Tryz.ntmps25
 go_upto_region 1 with fail
 generalize w.alloc (.cells #[.int .i64 a, .int .i64 b] 68) = v at *
 have SK : Hid (∀ w', Below v.heap.size v w' → (fun w' => w'.cell? ⟨w.heap.size, 0, none⟩ = some (.int .i64 a) ∧ w'.cell? ⟨w.heap.size, 1, none⟩ = some (.int .i64 b)) w') := fun w' h => ⟨by rw [h.cell (p := ⟨w.heap.size, 0, none⟩) hlt]; exact q0, by rw [h.cell (p := ⟨w.heap.size, 1, none⟩) hlt]; exact q1⟩
 clear q0 q1 hlt
 refine wp_region_held_drew (S := (fun w' => w'.cell? ⟨w.heap.size, 0, none⟩ = some (.int .i64 a) ∧ w'.cell? ⟨w.heap.size, 1, none⟩ = some (.int .i64 b))) (by kernel_rfl) ?_ (fun hHeld => ?_)
 ·first | exact SK.out _ XB | exact SK.out _ (Below.drew (Below.refl _ _))
 have XB : Below v.heap.size v v.drew := Below.drew (Below.refl _ _)
 generalize v.drew = vx at *
 refine zTk 0 ?_
 refine zTk 1 ?_
 refine zTk 4 ?_
 refine zTk 5 ?_
 refine wpAnyH_ready (rs := [2]) (by kernel_rfl) (by simp) ?_
 refine AllReadyH.cons (by rw [List.getElem?_toArray]; rfl) (fun K hK => ?_) AllReadyH.nil
 go_simp
 refine (CTa _ trivial).mono ?_; rintro ee vx ⟨rfl, hbl⟩; (replace XB := XB.trans (hbl.mono XB.size)); (clear hbl)
 (try go_wp2_with fail)
 refine hK.out _ _ ?_ (fun hHeld => ?_)
 ·first | exact SK.out _ XB | exact SK.out _ (Below.drew (Below.refl _ _))
 clear hK K
 (try simp only [Act.put, zSb, zS0, zS1])
 refine zTk 3 ?_
 refine wpAnyH_ready (rs := [6]) (by kernel_rfl) (by simp) ?_
 refine AllReadyH.cons (by rw [List.getElem?_toArray]; rfl) (fun K hK => ?_) AllReadyH.nil
 go_simp
 refine (CTb _ trivial).mono ?_; rintro ee vx ⟨rfl, hbl⟩; (replace XB := XB.trans (hbl.mono XB.size)); (clear hbl)
 (try go_wp2_with fail)
 refine hK.out _ _ ?_ (fun hHeld => ?_)
 ·first | exact SK.out _ XB | exact SK.out _ (Below.drew (Below.refl _ _))
 clear hK K
 (try simp only [Act.put, zSb, zS0, zS1])
 refine zTk 7 ?_
 refine zTk 8 ?_
 refine wpAnyH_done (by kernel_rfl) ?_ _
 have BX := B.trans (XB.mono B.size)
 go_wp2_with fail
 go_ret
 exact ⟨by rw [HX.out]; rfl, BX⟩
set_option maxHeartbeats 4000000 in
set_option maxRecDepth 100000 in
theorem implIvalText_any (a b : Int) (w : World) (a0 : -9223372036854775808 ≤ a) (a1 : a ≤ 9223372036854775807) (b0 : -9223372036854775808 ≤ b) (b1 : b ≤ 9223372036854775807) (E0 : T10 w) :
 Calls Tryz.prog 120 #[.agg #[.int .i64 a, .int .i64 b]] w fun e w' => e = .returned (.string (ivT a b)) ∧ Below w.heap.size w w' := by
 have B := Below.nw w (.cells #[.int .i64 a, .int .i64 b] 68)
 have q0 : (w.alloc (.cells #[.int .i64 a, .int .i64 b] 68)).cell? ⟨w.heap.size, 0, none⟩ = some (.int .i64 a) := by simp
 have q1 : (w.alloc (.cells #[.int .i64 a, .int .i64 b] 68)).cell? ⟨w.heap.size, 1, none⟩ = some (.int .i64 b) := by simp
 have hlt : w.heap.size < (w.alloc (.cells #[.int .i64 a, .int .i64 b] 68)).heap.size := by simp
 have HX : Hid (ivT a b = txI a ++ ⟨#[46, 46]⟩ ++ txI b) := rfl
 have hza := txI_size' a
 have hzb := txI_size' b
 have HE : Hid (T10 w) := E0
 have CTa := fun (u : World) (h : Below w.heap.size w u) => implTextOf_any a u a0 a1 (HE.out.below h)
 have CTb := fun (u : World) (h : Below w.heap.size w u) => implTextOf_any b u b0 b1 (HE.out.below h)
 clear E0
 generalize ivT a b = X at *
 generalize txI a = sa at *
 generalize txI b = sb at *
 have e2 : (⟨#[46, 46]⟩ : ByteArray).size = 2 := rfl
 have hz1 : (sa ++ ⟨#[46, 46]⟩ : ByteArray).size = sa.size + 2 := by rw [ByteArray.size_append, e2]
 have hl1 : ¬ 9223372036854775807 < sa.size + 2 := by omega
 have hl2 : ¬ 9223372036854775807 < sa.size + 2 + sb.size := by omega
 clear a0 a1 b0 b1 hza hzb
 go_enter Tryz.func120, Tryz.ntmps120
 go_upto_region 1 with fail
 generalize w.alloc (.cells #[.int .i64 a, .int .i64 b] 68) = v at *
 have SK : Hid (∀ w', Below v.heap.size v w' → (fun w' => w'.cell? ⟨w.heap.size, 0, none⟩ = some (.int .i64 a) ∧ w'.cell? ⟨w.heap.size, 1, none⟩ = some (.int .i64 b)) w') := fun w' h => ⟨by rw [h.cell (p := ⟨w.heap.size, 0, none⟩) hlt]; exact q0, by rw [h.cell (p := ⟨w.heap.size, 1, none⟩) hlt]; exact q1⟩
 clear q0 q1 hlt
 refine wp_region_held_drew (S := (fun w' => w'.cell? ⟨w.heap.size, 0, none⟩ = some (.int .i64 a) ∧ w'.cell? ⟨w.heap.size, 1, none⟩ = some (.int .i64 b))) (by kernel_rfl) ?_ (fun hHeld => ?_)
 ·first | exact SK.out _ XB | exact SK.out _ (Below.drew (Below.refl _ _))
 have XB : Below v.heap.size v v.drew := Below.drew (Below.refl _ _)
 generalize v.drew = vx at *
 refine zTk 0 ?_
 refine zTk 1 ?_
 refine zTk 4 ?_
 refine zTk 5 ?_
 refine wpAnyH_ready (rs := [2]) (by kernel_rfl) (by simp) ?_
 refine AllReadyH.cons (by rw [List.getElem?_toArray]; rfl) (fun K hK => ?_) AllReadyH.nil
 go_simp
 refine (CTa _ (B.trans (XB.mono B.size))).mono ?_; rintro ee vx ⟨rfl, hbl⟩; (replace XB := XB.trans (hbl.mono XB.size)); (clear hbl)
 (try go_wp2_with fail)
 refine hK.out _ _ ?_ (fun hHeld => ?_)
 ·first | exact SK.out _ XB | exact SK.out _ (Below.drew (Below.refl _ _))
 clear hK K
 (try simp only [Act.put, zSb, zS0, zS1])
 refine zTk 3 ?_
 refine wpAnyH_ready (rs := [6]) (by kernel_rfl) (by simp) ?_
 refine AllReadyH.cons (by rw [List.getElem?_toArray]; rfl) (fun K hK => ?_) AllReadyH.nil
 go_simp
 refine (CTb _ (B.trans (XB.mono B.size))).mono ?_; rintro ee vx ⟨rfl, hbl⟩; (replace XB := XB.trans (hbl.mono XB.size)); (clear hbl)
 (try go_wp2_with fail)
 refine hK.out _ _ ?_ (fun hHeld => ?_)
 ·first | exact SK.out _ XB | exact SK.out _ (Below.drew (Below.refl _ _))
 clear hK K
 (try simp only [Act.put, zSb, zS0, zS1])
 refine zTk 7 ?_
 refine zTk 8 ?_
 refine wpAnyH_done (by kernel_rfl) ?_ _
 have BX := B.trans (XB.mono B.size)
 go_wp2_with fail
 go_ret
 exact ⟨by rw [HX.out]; rfl, BX⟩
end Go.Proofs.YtddijpjgkifngaaGreatDoor
namespace Go.Proofs.YtddijpjgkifngaaGreatDoor
open Go.RowKit
set_option linter.unusedVariables false
def wdAll (f : Nat → Bool) : Nat → Bool
 | 0 => true
 | k + 1 => wdAll f k && f k
theorem wdAll_no {f : Nat → Bool} {k : Nat} (h : f k = false) : ∀ n, k < n → wdAll f n = false
 | 0, hk => absurd hk (Nat.not_lt_zero _)
 | n + 1, hk => by
  rw [wdAll]
  by_cases e : k = n
  ·subst e; rw [h]; simp
  ·rw [wdAll_no h n (by omega)]; rfl
theorem wdAll_get {f : Nat → Bool} : ∀ {n : Nat}, wdAll f n = true → ∀ i, i < n → f i = true
 | 0, _, i, hi => absurd hi (Nat.not_lt_zero _)
 | n + 1, h, i, hi => by
  rw [wdAll, Bool.and_eq_true] at h
  by_cases e : i = n
  ·subst e; exact h.2
  ·exact wdAll_get h.1 i (by omega)
theorem wdAll_more {f : Nat → Bool} {k : Nat} (h : wdAll f k = true) (hf : f k = true) : wdAll f (k + 1) = true := by rw [wdAll, h, hf]; rfl
def wdNo (x : WdX) (i : Nat) : Bool := okX (x.XM i) && (decide ((x.XM i).ni = (i : Int)) && cmX (x.XM i) (x.CM i))
def wdPl (x : WdX) (z : Int) : Bool := decide (0 ≤ z ∧ z < (x.nn : Int))
def wdFl (x : WdX) (i : Nat) : Bool := wdPl x (x.FM i).2.1 && (wdPl x (x.FM i).2.2.1 && decide ((x.FM i).2.2.2.2 ≤ x.ti))
def wdFr (x : WdX) (i : Nat) : Bool := wdPl x (x.BM i).1 && decide ((x.BM i).2.2.2.1 ≤ x.ti)
def wdNds (x : WdX) : Bool := decide (1 ≤ x.nn ∧ x.nn ≤ 8) && (decide (x.nl = x.nn) && (decide (x.nc = x.nn) && wdAll (wdNo x) x.nn))
def wdNeb (x : WdX) : Bool := wdAll (wdFl x) x.nf && netB x.nx x.FM x.nf
def wdBub (x : WdX) : Bool := wdAll (wdFr x) x.nb && buB x.BM x.nb
def wdOk (x : WdX) : Bool := cokX x.y && (okT x.ti && (wdNds x && (wdNeb x && wdBub x)))
theorem nOk_get {nx : Int} {M : Nat → FT} : ∀ {n : Nat}, nOk nx M n = true → ∀ i, i < n → flT (M i) = true
 | 0, _, i, hi => absurd hi (Nat.not_lt_zero _)
 | n + 1, h, i, hi => by
  rw [nOk, Bool.and_eq_true, Bool.and_eq_true, Bool.and_eq_true] at h
  by_cases e : i = n
  ·subst e; exact h.2.1.1
  ·exact nOk_get h.1 i (by omega)
theorem net_nod {nx : Int} {M : Nat → FT} {n i : Nat} (h : netB nx M n = true) (hi : i < n) : 0 ≤ (M i).2.1 ∧ 0 ≤ (M i).2.2.1 := by
 rw [netB, Bool.and_eq_true] at h
 have q := nOk_get h.2 i hi
 rw [flT, flB, Bool.and_eq_true, Bool.and_eq_true, Bool.and_eq_true] at q
 exact ⟨(of_decide_eq_true q.1.1.1).1, (of_decide_eq_true q.1.1.2).1⟩
theorem buA_get {M : Nat → FrT} : ∀ {n : Nat}, buA M n = true → ∀ i, i < n → frM (M i) = true
 | 0, _, i, hi => absurd hi (Nat.not_lt_zero _)
 | n + 1, h, i, hi => by
  rw [buA, Bool.and_eq_true, Bool.and_eq_true] at h
  by_cases e : i = n
  ·subst e; exact h.2.1
  ·exact buA_get h.1 i (by omega)
theorem bus_nod {M : Nat → FrT} {n i : Nat} (h : buB M n = true) (hi : i < n) : 0 ≤ (M i).1 := by
 rw [buB, Bool.and_eq_true] at h
 have q := buA_get h.2 i hi
 rw [frM, frB, Bool.and_eq_true] at q
 exact (of_decide_eq_true q.1).1
theorem wdOk_parts {x : WdX} (h : wdOk x = true) : cokX x.y = true ∧ okT x.ti = true ∧ (1 ≤ x.nn ∧ x.nn ≤ 8) ∧ x.nl = x.nn ∧ x.nc = x.nn ∧ (∀ i, i < x.nn → wdNo x i = true) ∧ (∀ i, i < x.nf → wdFl x i = true) ∧ netB x.nx x.FM x.nf = true ∧ (∀ i, i < x.nb → wdFr x i = true) ∧ buB x.BM x.nb = true := by
 unfold wdOk wdNds wdNeb wdBub at h
 simp only [Bool.and_eq_true] at h
 obtain ⟨h1, h2, ⟨h3, h4, h5, h6⟩, ⟨h7, h8⟩, h9, h10⟩ := h
 exact ⟨h1, h2, of_decide_eq_true h3, of_decide_eq_true h4, of_decide_eq_true h5, wdAll_get h6, wdAll_get h7, h8, wdAll_get h9, h10⟩
end Go.Proofs.YtddijpjgkifngaaGreatDoor
namespace Go.Proofs.YtddijpjgkifngaaGreatDoor
open Go.RowKit
set_option linter.unusedVariables false
def lkW (ok : Bool) (a b : Int) : ByteArray := match ok with | true => ivT a b | false => ⟨#[63]⟩
theorem lkW_t (a b : Int) : lkW true a b = ivT a b := rfl
theorem lkW_f (a b : Int) : lkW false a b = ⟨#[63]⟩ := rfl
def prW (n a b : Int) (m : Bool) : ByteArray := match m with | true => txI n ++ ⟨#[61]⟩ ++ ivT a b ++ ⟨#[33]⟩ | false => txI n ++ ⟨#[61]⟩ ++ ivT a b
theorem prW_t (n a b : Int) : prW n a b true = txI n ++ ⟨#[61]⟩ ++ ivT a b ++ ⟨#[33]⟩ := rfl
theorem prW_f (n a b : Int) : prW n a b false = txI n ++ ⟨#[61]⟩ ++ ivT a b := rfl
theorem lkW_size (ok : Bool) (a b : Int) : (lkW ok a b).size ≤ 44 := by
 have h := ivT_size a b
 have e : (⟨#[63]⟩ : ByteArray).size = 1 := rfl
 cases ok
 ·rw [lkW_f]; omega
 ·rw [lkW_t]; omega
theorem prW_size (n a b : Int) (m : Bool) : (prW n a b m).size ≤ 130 := by
 have h := ivT_size a b
 have h1 := txI_size' n
 have e : (⟨#[61]⟩ : ByteArray).size = 1 := rfl
 have e2 : (⟨#[33]⟩ : ByteArray).size = 1 := rfl
 cases m
 ·rw [prW_f]; simp only [ByteArray.size_append, e]; omega
 ·rw [prW_t]; simp only [ByteArray.size_append, e, e2]; omega
attribute [-go_sem] loadCells storeCells in
set_option maxRecDepth 100000 in
set_option maxHeartbeats 16000000 in
theorem lookWord_any (ok : Bool) (a b : Int) (w : World) (E0 : T10 w) (h1 : i64B a) (h2 : i64B b) :
 Calls Tryz.prog 71 #[.agg #[.bool ok, .int .i64 a, .int .i64 b]] w fun e w' => e = .returned (.string (lkW ok a b)) ∧ Below w.heap.size w w' := by
 have B := Below.nw w (.cells #[.bool ok, .int .i64 a, .int .i64 b] 82)
 have L := Bo.new w #[.bool ok, .int .i64 a, .int .i64 b] 82
 have HE : Hid (T10 w) := E0
 have CI := fun (u : World) (h : Below w.heap.size w u) => implIvalText_any a b u h1.1 h1.2 h2.1 h2.2 (HE.out.below h)
 have HT : Hid (lkW true a b = ivT a b) := lkW_t a b
 have HF : Hid (lkW false a b = ⟨#[63]⟩) := lkW_f a b
 clear E0 h1 h2
 generalize ivT a b = si at *
 go_enter Tryz.func71, Tryz.ntmps71
 go_upto_region 1 with fail
 generalize w.alloc (.cells #[.bool ok, .int .i64 a, .int .i64 b] 82) = v at *
 have c0 : v.cell? ⟨w.heap.size, 0, none⟩ = some (.bool ok) := L.cell (i := 0) rfl
 cases ok
 ·clear CI HT
  go_wp2_with fail
  go_ret
  exact ⟨by rw [HF.out]; rfl, B⟩
 have hL : (loadCells ⟨w.heap.size, 1, none⟩ 2).run Tryz.prog v = .ok #[.int .i64 a, .int .i64 b] v := L.loadAt (P := Tryz.prog) 1 2 (show 1 + 2 ≤ 3 by decide)
 go_wp2_with (rw [hL])
 refine (CI _ B).mono ?_
 rintro e v1 ⟨rfl, hb⟩
 go_wp2_with fail
 go_ret
 exact ⟨by rw [HT.out]; rfl, B.trans (hb.mono B.size)⟩
attribute [-go_sem] loadCells storeCells in
set_option maxRecDepth 100000 in
set_option maxHeartbeats 16000000 in
theorem peerWord_any (n a b t : Int) (m : Bool) (w : World) (E0 : T10 w) (h0 : i64B n) (h1 : i64B a) (h2 : i64B b) :
 Calls Tryz.prog 72 #[.agg #[.int .i64 n, .int .i64 a, .int .i64 b, .int .i64 t, .bool m]] w fun e w' => e = .returned (.string (prW n a b m)) ∧ Below w.heap.size w w' := by
 have B := Below.nw w (.cells #[.int .i64 n, .int .i64 a, .int .i64 b, .int .i64 t, .bool m] 86)
 have L := Bo.new w #[.int .i64 n, .int .i64 a, .int .i64 b, .int .i64 t, .bool m] 86
 have HE : Hid (T10 w) := E0
 have C0 := fun (u : World) (h : Below w.heap.size w u) => implTextOf_any n u h0.1 h0.2 (HE.out.below h)
 have C1 := fun (u : World) (h : Below w.heap.size w u) => implIvalText_any a b u h1.1 h1.2 h2.1 h2.2 (HE.out.below h)
 have HT : Hid (prW n a b true = txI n ++ ⟨#[61]⟩ ++ ivT a b ++ ⟨#[33]⟩) := prW_t n a b
 have HF : Hid (prW n a b false = txI n ++ ⟨#[61]⟩ ++ ivT a b) := prW_f n a b
 have z0 := txI_size' n
 have z1 := ivT_size a b
 clear E0 h0 h1 h2
 generalize txI n = sa at *
 generalize ivT a b = si at *
 have e61 : (⟨#[61]⟩ : ByteArray).size = 1 := rfl
 have e33 : (⟨#[33]⟩ : ByteArray).size = 1 := rfl
 have a0 : ¬ 9223372036854775807 < sa.size + 1 := by omega
 have a1 : ¬ 9223372036854775807 < sa.size + 1 + si.size := by omega
 have a2 : ¬ 9223372036854775807 < sa.size + 1 + si.size + 1 := by omega
 clear z0 z1
 go_enter Tryz.func72, Tryz.ntmps72
 go_upto_region 1 with fail
 generalize w.alloc (.cells #[.int .i64 n, .int .i64 a, .int .i64 b, .int .i64 t, .bool m] 86) = v at *
 have SK : Hid (∀ w', Below v.heap.size v w' → (fun w' => w'.cell? ⟨w.heap.size, 0, none⟩ = some (.int .i64 n) ∧ (loadCells ⟨w.heap.size, 1, none⟩ 2).run Tryz.prog w' = .ok #[.int .i64 a, .int .i64 b] w') w') := fun w' h => ⟨(L.below h).cell (i := 0) rfl, (L.below h).loadAt (P := Tryz.prog) 1 2 (show 1 + 2 ≤ 5 by decide)⟩
 refine wp_region_held_drew (S := (fun w' => w'.cell? ⟨w.heap.size, 0, none⟩ = some (.int .i64 n) ∧ (loadCells ⟨w.heap.size, 1, none⟩ 2).run Tryz.prog w' = .ok #[.int .i64 a, .int .i64 b] w')) (by kernel_rfl) ?_ (fun hHeld => ?_)
 ·first | exact SK.out _ XB | exact SK.out _ (Below.drew (Below.refl _ _))
 have XB : Below v.heap.size v v.drew := Below.drew (Below.refl _ _)
 generalize v.drew = vx at *
 refine zTk 0 ?_
 refine zTk 1 ?_
 refine zTk 4 ?_
 refine zTk 5 ?_
 refine wpAnyH_ready (rs := [2]) (by kernel_rfl) (by simp) ?_
 refine AllReadyH.cons (by rw [List.getElem?_toArray]; rfl) (fun K hK => ?_) AllReadyH.nil
 go_simp
 refine (C0 _ (B.trans (XB.mono B.size))).mono ?_; rintro ee vx ⟨rfl, hbl⟩; (replace XB := XB.trans (hbl.mono XB.size)); (clear hbl)
 (try go_wp2_with fail)
 refine hK.out _ _ ?_ (fun hHeld => ?_)
 ·first | exact SK.out _ XB | exact SK.out _ (Below.drew (Below.refl _ _))
 clear hK K
 (try simp only [Act.put, zSb, zS0, zS1])
 refine zTk 3 ?_
 refine wpAnyH_ready (rs := [6]) (by kernel_rfl) (by simp) ?_
 refine AllReadyH.cons (by rw [List.getElem?_toArray]; rfl) (fun K hK => ?_) AllReadyH.nil
 go_simp
 refine (C1 _ (B.trans (XB.mono B.size))).mono ?_; rintro ee vx ⟨rfl, hbl⟩; (replace XB := XB.trans (hbl.mono XB.size)); (clear hbl)
 (try go_wp2_with fail)
 refine hK.out _ _ ?_ (fun hHeld => ?_)
 ·first | exact SK.out _ XB | exact SK.out _ (Below.drew (Below.refl _ _))
 clear hK K
 (try simp only [Act.put, zSb, zS0, zS1])
 refine zTk 7 ?_
 refine zTk 8 ?_
 refine wpAnyH_done (by kernel_rfl) ?_ _
 replace L := L.below XB
 have BX := B.trans (XB.mono B.size)
 clear SK XB B C0 C1
 have c4 : vx.cell? ⟨w.heap.size, 4, none⟩ = some (.bool m) := L.cell (i := 4) rfl
 cases m
 ·go_wp2_with fail
  go_ret
  exact ⟨by rw [HF.out]; rfl, BX⟩
 ·go_wp2_with fail
  go_ret
  exact ⟨by rw [HT.out]; rfl, BX⟩
end Go.Proofs.YtddijpjgkifngaaGreatDoor
namespace Go.Proofs.YtddijpjgkifngaaGreatDoor
open Go.RowKit
set_option linter.unusedVariables false
theorem cr_cases (kn : Bool) (lo hi a n d c : Int) : (crP kn lo hi a n d c = false ∧ crC kn lo hi a n d c = 1) ∨ (crP kn lo hi a n d c = true ∧ kn = false ∧ crC kn lo hi a n d c = 2) ∨ (crP kn lo hi a n d c = true ∧ kn = true ∧ (crC kn lo hi a n d c = 3 ∨ crC kn lo hi a n d c = 4 ∨ crC kn lo hi a n d c = 0)) := by
 cases hp : crP kn lo hi a n d c
 ·exact .inl ⟨rfl, (crC_1 hp).1⟩
 cases kn
 ·exact .inr (.inl ⟨rfl, rfl, (crC_2 hp).1⟩)
 refine .inr (.inr ⟨rfl, rfl, ?_⟩)
 by_cases h4 : c < a
 ·exact .inl (crC_3 hp h4).1
 cases h5 : btB n d (c - a)
 ·exact .inr (.inl (crC_4 hp h4 h5).1)
 cases h6 : plusB lo hi (upI ((c - a) * d) (d + n)) (dnI ((c - a) * d) (d - n))
 ·exact .inr (.inl (crC_5 hp h4 h5 h6).1)
 ·exact .inr (.inr (crC_0 hp h4 h5 h6).1)
theorem cr_ok {lo hi a n d c : Int} {kn : Bool} (h : crC kn lo hi a n d c = 0) : kn = true ∧ okT c = true ∧ okI (crL kn lo hi a n d c) (crH kn lo hi a n d c) = true := by
 rcases cr_cases kn lo hi a n d c with ⟨_, e⟩ | ⟨_, _, e⟩ | ⟨hp, hk, _⟩
 ·rw [e] at h; exact absurd h (by decide)
 ·rw [e] at h; exact absurd h (by decide)
 subst hk
 have p4 := (crP_p hp).2.2.2
 refine ⟨rfl, p4, ?_⟩
 by_cases h4 : c < a
 ·rw [(crC_3 hp h4).1] at h; exact absurd h (by decide)
 cases h5 : btB n d (c - a)
 ·rw [(crC_4 hp h4 h5).1] at h; exact absurd h (by decide)
 cases h6 : plusB lo hi (upI ((c - a) * d) (d + n)) (dnI ((c - a) * d) (d - n))
 ·rw [(crC_5 hp h4 h5 h6).1] at h; exact absurd h (by decide)
 ·obtain ⟨_, e2, e3⟩ := crC_0 hp h4 h5 h6
  rw [e2, e3]; unfold plusB at h6; simp at h6; exact h6.2
end Go.Proofs.YtddijpjgkifngaaGreatDoor
namespace Go.Proofs.YtddijpjgkifngaaGreatDoor
open Go.RowKit
set_option linter.unusedVariables false
def nhL (x : WdX) (k : Nat) : List ByteArray := [nmS (x.XM k).mo, txI (x.XM k).ep, txI (x.CM k), lkW (nowC x.y (x.XM k) (x.CM k) == 0) (nowL x.y (x.XM k) (x.CM k)) (nowH x.y (x.XM k) (x.CM k)), txI ((x.XM k).na : Int)]
def pnF (x : NdX) (j : Nat) : ByteArray := prW (x.QM j).1 (x.QM j).2.1 (x.QM j).2.2.1 (x.QM j).2.2.2.2
def nnL (x : WdX) (k j : Nat) : List ByteArray := nhL x k ++ rwL (pnF (x.XM k)) j
theorem nnL_0 (x : WdX) (k : Nat) : nnL x k 0 = nhL x k := by rw [nnL, rwL, List.append_nil]
theorem nnL_more (x : WdX) (k j : Nat) : nnL x k (j + 1) = nnL x k j ++ [pnF (x.XM k) j] := by rw [nnL, rwL, nnL, List.append_assoc]
theorem nnL_len (x : WdX) (k j : Nat) : (nnL x k j).length = 5 + j := by rw [nnL, List.length_append, rwL_len]; rfl
def shG (x : WdX) (i : Int) : Bool := wdOk x && decide (0 ≤ i ∧ i < (x.nn : Int))
def shT (x : WdX) (i : Int) : ByteArray := match shG x i with | true => jnB (nnL x i.toNat (x.XM i.toNat).np) | false => ⟨#[]⟩
theorem shT_t {x : WdX} {i : Int} (h : shG x i = true) : shT x i = jnB (nnL x i.toNat (x.XM i.toNat).np) := by rw [shT, h]
theorem shT_f {x : WdX} {i : Int} (h : shG x i = false) : shT x i = ⟨#[]⟩ := by rw [shT, h]
theorem nmS_size (m : Int) : (nmS m).size ≤ 21 := by
 unfold nmS
 repeat' split
 all_goals decide
theorem pnF_size (x : NdX) (j : Nat) : (pnF x j).size ≤ 130 := prW_size _ _ _ _
theorem nhL_all (x : WdX) (k : Nat) : ∀ y ∈ nhL x k, y.size ≤ 130 := by
 intro y hy
 simp only [nhL, List.mem_cons, List.not_mem_nil, or_false] at hy
 rcases hy with h | h | h | h | h
 ·rw [h]; have := nmS_size (x.XM k).mo; omega
 ·rw [h]; have := txI_size' (x.XM k).ep; omega
 ·rw [h]; have := txI_size' (x.CM k); omega
 ·rw [h]; have := lkW_size (nowC x.y (x.XM k) (x.CM k) == 0) (nowL x.y (x.XM k) (x.CM k)) (nowH x.y (x.XM k) (x.CM k)); omega
 ·rw [h]; have := txI_size' ((x.XM k).na : Int); omega
theorem nnL_all (x : WdX) (k j : Nat) : ∀ y ∈ nnL x k j, y.size ≤ 130 := by
 intro y hy
 rcases List.mem_append.1 hy with q | q
 ·exact nhL_all x k y q
 ·exact rwL_all (fun i _ => pnF_size _ _) y q
theorem nnL_size (x : WdX) (k j : Nat) (h : j ≤ 8) : (jnB (nnL x k j)).size ≤ 1703 := by
 have q := jn_size (nnL_all x k j)
 rw [nnL_len] at q
 exact Nat.le_trans q (by omega)
theorem now_i64 (y : CfX) (x : NdX) (ct : Int) : i64B (nowL y x ct) ∧ i64B (nowH y x ct) := by
 cases h : nowC y x ct == 0
 ·have a : nowL y x ct = 0 := by rw [nowL, h]
  have b : nowH y x ct = 0 := by rw [nowH, h]
  rw [a, b]
  unfold i64B
  omega
 ·have a : nowL y x ct = crL x.kn x.lo x.hi x.la y.dn y.dd ct := by rw [nowL, h]
  have b : nowH y x ct = crH x.kn x.lo x.hi x.la y.dn y.dd ct := by rw [nowH, h]
  have hc : crC x.kn x.lo x.hi x.la y.dn y.dd ct = 0 := by
   have h2 := h
   unfold nowC at h2
   cases h3 : cokX y <;> rw [h3] at h2
   ·exact absurd (show ((1 : Int) == 0) = true from h2) (by decide)
   cases h4 : (okX x && cmX x ct) <;> rw [h4] at h2
   ·exact absurd (show ((1 : Int) == 0) = true from h2) (by decide)
   cases h5 : crC x.kn x.lo x.hi x.la y.dn y.dd ct == 0 <;> rw [h5] at h2
   ·cases h6 : crC x.kn x.lo x.hi x.la y.dn y.dd ct == 2 <;> rw [h6] at h2
    ·exact absurd (show ((10 : Int) == 0) = true from h2) (by decide)
    ·exact absurd (show ((8 : Int) == 0) = true from h2) (by decide)
   ·exact eq_of_beq h5
  have q := (cr_ok hc).2.2
  rw [a, b]
  have r := of_decide_eq_true q
  unfold i64B
  omega
theorem node_i64 {x : WdX} {k : Nat} (h : wdOk x = true) (hk : k < x.nn) : k < x.nc ∧ (x.XM k).np ≤ 8 ∧ (x.XM k).na ≤ 16 ∧ i64B (x.XM k).ep ∧ i64B (x.CM k) ∧ ∀ j, j < (x.XM k).np → i64B ((x.XM k).QM j).1 ∧ i64B ((x.XM k).QM j).2.1 ∧ i64B ((x.XM k).QM j).2.2.1 := by
 obtain ⟨_, _, _, _, hc, hn, _⟩ := wdOk_parts h
 have q := hn k hk
 unfold wdNo at q
 simp only [Bool.and_eq_true] at q
 obtain ⟨q1, _, q2⟩ := q
 unfold okX ndB ndA at q1
 unfold cmX cmB at q2
 simp only [Bool.and_eq_true] at q1 q2
 obtain ⟨⟨_, a2, _, a4, a5, _⟩, _⟩ := q1
 obtain ⟨⟨b1, _⟩, _⟩ := q2
 unfold lfB at a2
 unfold tabB at a4
 simp only [Bool.and_eq_true] at a2 a4
 have e1 := of_decide_eq_true a2.2.1
 have e2 := of_decide_eq_true a4.1.2
 have e3 := of_decide_eq_true b1
 refine ⟨by omega, oks_le a5, e2, ?_, ?_, fun j hj => ?_⟩
 ·unfold i64B; omega
 ·unfold i64B; omega
 ·obtain ⟨p1, p2, _⟩ := oks_p a5 hj
  have r1 := of_decide_eq_true p1
  have r2 := of_decide_eq_true p2
  unfold i64B
  omega
theorem peer5 {P : Program} {w : World} {b off n k : Nat} {M : Nat → PT} {x0 x1 x2 x3 : Int} {x4 : Bool} (h : Cs w b off (n * 5) (MFPeer M)) (hk : k < n) (hM : M k = (x0, x1, x2, x3, x4)) :
 (loadCells ⟨b, off + k * 5, none⟩ 5).run P w = .ok #[.int .i64 x0, .int .i64 x1, .int .i64 x2, .int .i64 x3, .bool x4] w := by
 obtain ⟨c0, c1, c2, c3, c4⟩ := h.elPeer hk hM
 have e := run_loadCells_list (P := P) w ⟨b, off + k * 5, none⟩ [.int .i64 x0, .int .i64 x1, .int .i64 x2, .int .i64 x3, .bool x4] (fun j v hj => by
  rw [add_at]
  match j, hj with
  | 0, hj => simp at hj; subst hj; exact c0
  | 1, hj => simp at hj; subst hj; exact c1
  | 2, hj => simp at hj; subst hj; exact c2
  | 3, hj => simp at hj; subst hj; exact c3
  | 4, hj => simp at hj; subst hj; exact c4
  | j + 5, hj => simp at hj)
 exact e
end Go.Proofs.YtddijpjgkifngaaGreatDoor
