/- The contract of when, by time. -/
import Derived.Test.YtdgfneloaopleaaN0
import Derived.Test.YtdgfneloaopleaaU2
import Derived.Test.YtdgfneloaopleaaO2
import Derived.Deep.RegionHeld3
import Derived.Deep.DeepCutAuto
import Derived.WalkKit
import Derived.WalkSpells
import Derived.WalkLawsBesides
import Derived.Deep.RegionHeld
namespace Go.Proofs.Ytdgfneloaopleaa
open Go.RowKit
set_option linter.unusedVariables false
def put2 (w : World) (k : Nat) (a b : Int) : World := (w.setCell ⟨k, 0, none⟩ (.int .i64 a)).setCell ⟨k, 1, none⟩ (.int .i64 b)
theorem Bx.set2 {k : Nat} {w : World} {x y : Int} (h : Bx w k x y) (x' y' : Int) : Bx (put2 w k x' y') k x' y' := by
  refine ⟨by simpa [put2] using h.1, ?_, ?_, by simpa [put2] using h.2.2.2.1, by simpa [put2] using h.2.2.2.2⟩
  · unfold put2
    rw [World.cell?_setCell_other _ _ _ _ (by simp), World.cell?_setCell_same _ _ _ h.2.1]
  · unfold put2
    exact World.cell?_setCell_same _ _ _ (by rw [World.cell?_setCell_other _ _ _ _ (by simp)]; exact h.2.2.1)
theorem Bx.set2O {k j : Nat} {w : World} {x y : Int} (h : Bx w k x y) (hk : j ≠ k) (a b : Int) : Bx (put2 w j a b) k x y := (h.setO hk _ _).setO hk _ _
theorem Prs.setO {w : World} {b off n j : Nat} {f : Nat → Int × Int} (h : Prs w b off n f) (hk : j ≠ b) (o : Nat) (u : Value) : Prs (w.setCell ⟨j, o, none⟩ u) b off n f := by
  have hne : ∀ q, (⟨j, o, none⟩ : Addr) ≠ ⟨b, q, none⟩ := fun q e => hk (congrArg Addr.block e)
  exact ⟨by simpa using h.1, fun i hi => ⟨by rw [World.cell?_setCell_other _ _ _ _ (hne _)]; exact (h.2 i hi).1, by rw [World.cell?_setCell_other _ _ _ _ (hne _)]; exact (h.2 i hi).2⟩⟩
theorem Prs.set2O {w : World} {b off n j : Nat} {f : Nat → Int × Int} (h : Prs w b off n f) (hk : j ≠ b) (a c : Int) : Prs (put2 w j a c) b off n f := (h.setO hk _ _).setO hk _ _
theorem Below.set2 {B j : Nat} {w w' : World} (h : Below B w w') (hj : B ≤ j) (a b : Int) : Below B w (put2 w' j a b) := (h.setCell hj _).setCell hj _
theorem Prs.drew {w : World} {b off n : Nat} {f : Nat → Int × Int} (h : Prs w b off n f) : Prs w.drew b off n f := h
theorem Prs.belo {w w' : World} {b off n : Nat} {f : Nat → Int × Int} (h : Prs w b off n f) (hb : Below w.heap.size w w') : Prs w' b off n f := h.below hb h.1
theorem ct_ok {n d x : Int} (h : ctB n d x = true) : okT (upI (x * (d - n)) d) = true ∧ okT (dnI (x * (d + n)) d) = true := by
  have ⟨a, b⟩ := ct_parts h; exact ⟨(rB_o a).2.2, (rB_o b).2.2⟩
theorem bt_ok {n d x : Int} (h : btB n d x = true) : okT (upI (x * d) (d + n)) = true ∧ okT (dnI (x * d) (d - n)) = true := by
  simp [btB] at h; exact ⟨(rB_o h.1).2.2, (rB_o h.2).2.2⟩
theorem okI_mk {lo hi : Int} (h1 : 0 ≤ lo) (h2 : hi ≤ 1000000000000) : okI lo hi = decide (lo ≤ hi) := by
  unfold okI; rw [decide_eq_decide]
  constructor
  · intro h; exact h.1
  · intro h; exact ⟨h, by omega, h2⟩
theorem imx_ge (x y : Int) : x ≤ imx x y := by unfold imx; split <;> omega
theorem imn_le (x y : Int) : imn x y ≤ y := by unfold imn; split <;> omega
set_option maxRecDepth 100000 in
set_option maxHeartbeats 4000000 in
theorem whenT_any (n d : Int) (b off m c : Nat) (f : Nat → Int × Int) (x : Int) (w : World) (ho : okD n d = true) (u1 : 1 ≤ m) (u2 : m ≤ 201) (hs : ∀ i j, i ≤ j → j < m → (f i).1 ≤ (f j).1) (hok : ∀ i, i < m → okT (f i).1 = true ∧ okT (f i).2 = true) (hf : Prs w b off m f) :
    Calls Try.prog 43 #[.slice (some ⟨b, off, none⟩) m c, .agg #[.int .i64 n, .int .i64 d], .int .i64 x, .func (.func 44) #[] #[], .func (.func 45) #[] #[]] w fun e w' => e = .returned (.tuple #[.agg #[.int .i64 (sel (whB (ctB n d) (fun x => upI (x * (d - n)) d) (fun x => dnI (x * (d + n)) d) (t1 f) (t2 f) x m) (whLo (fun x => upI (x * (d - n)) d) (fun x => dnI (x * (d + n)) d) (t1 f) (t2 f) x m)), .int .i64 (sel (whB (ctB n d) (fun x => upI (x * (d - n)) d) (fun x => dnI (x * (d + n)) d) (t1 f) (t2 f) x m) (whHi (fun x => upI (x * (d - n)) d) (fun x => dnI (x * (d + n)) d) (t1 f) (t2 f) x m))], .bool (whB (ctB n d) (fun x => upI (x * (d - n)) d) (fun x => dnI (x * (d + n)) d) (t1 f) (t2 f) x m)]) ∧ Below w.heap.size w w' := by
  have B : Below w.heap.size w ((w.alloc (.cells #[.int .i64 n, .int .i64 d] 25)).alloc (.cells #[.int .i64 0, .int .i64 0] 37)) := (Below.alc _ _).alloc (by simp) _
  have P := (Bx.new w n d 25).alloc (.cells #[.int .i64 0, .int .i64 0] 37)
  have Q := Bx.new (w.alloc (.cells #[.int .i64 n, .int .i64 d] 25)) 0 0 37
  simp only [World.size_alloc] at Q
  have H := hf.below B hf.1
  have HOK : Hid (∀ i, i < m → okT (f i).1 = true ∧ okT (f i).2 = true) := hok
  have HS : Hid (∀ i j, i ≤ j → j < m → (f i).1 ≤ (f j).1) := hs
  have HD : Hid (okD n d = true) := ho
  have bn : b < w.heap.size := hf.1
  clear hf hok hs ho
  go_enter Try.func43, Try.ntmps43
  go_wp2_with fail
  refine (upToT_any b off m c f x _ u1 u2 HS.out H).mono ?_
  rintro e v ⟨rfl, hb⟩
  replace B := B.trans (hb.mono B.size)
  replace P := P.below hb
  replace Q := Q.below hb
  replace H := H.belo hb
  clear hb
  cases hin : inB (t1 f) x m
  · have HB : Hid ((whB (ctB n d) (fun x => upI (x * (d - n)) d) (fun x => dnI (x * (d + n)) d) (t1 f) (t2 f) x m) = false) := by simp only [Hid, whB, hin, Bool.false_and]
    obtain ⟨q0, q1, q2, q3, q4⟩ := id Q
    go_wp2_with fail
    exact bodyPost_ret (v := .tuple #[.agg #[.int .i64 0, .int .i64 0], .bool false]) (by simp (maxDischargeDepth := 6) [results, Try.results43, go_sem, *]) rfl ⟨by rw [HB.out, sel_f rfl, sel_f rfl], by repeat (first | refine Below.drew ?_ | refine Below.setCell ?_ (by first | (simp; done) | (simp; omega) | omega) _ | exact B)⟩
  have hin' : (f 0).1 ≤ x ∧ x ≤ (f (m - 1)).1 := of_decide_eq_true hin
  obtain ⟨x1, x2⟩ := hin'
  have HIN : Hid (inB (t1 f) x m = true) := hin
  clear hin
  have ⟨z3, z4⟩ := okT_t (HOK.out (m - 1) (by omega)).1
  have l1 : lastLe (t1 f) x m < m := lastLe_lt u1
  have l2 : (f (lastLe (t1 f) x m)).1 ≤ x := lastLe_le (g := t1 f) u1 x1
  have l3 : ∀ i, lastLe (t1 f) x m < i → i < m → x < (f i).1 := fun i h1 h2 => lastLe_gt (g := t1 f) h1 h2
  generalize hI : lastLe (t1 f) x m = I at *
  have HI : Hid (lastLe (t1 f) x m = I) := hI
  have L3 : Hid (∀ i, I < i → i < m → x < (f i).1) := l3
  clear hI l3
  have ⟨y1, y2⟩ := okT_t (HOK.out I l1).1
  have ⟨y3, y4⟩ := okT_t (HOK.out I l1).2
  have hIm : (I : Int) < (m : Int) := by omega
  have wA : IntKind.i64.wrap (x - (f I).1) = (x - (f I).1) := Go.IntWalk.i64_in _ ⟨by omega, by omega⟩
  have tA : okT (x - (f I).1) = true := decide_eq_true ⟨by omega, by omega⟩
  have AK : Hid (ctB n d (x - (f I).1) = true → okT (upI ((x - (f I).1) * (d - n)) d) = true ∧ okT (dnI ((x - (f I).1) * (d + n)) d) = true) := fun h => ct_ok h
  have LE1 : Hid ((upI ((x - (f I).1) * (d - n)) d) ≤ (x - (f I).1) ∧ (x - (f I).1) ≤ (dnI ((x - (f I).1) * (d + n)) d)) := lc_le HD.out tA
  have C1 := fun w' => fromToC_any n d (x - (f I).1) w'
  have q0 : v.cell? ⟨b, off + I * 2, none⟩ = some (.int .i64 (f I).1) := (H.2 I l1).1
  have bwr : b < v.heap.size := H.1
  have HBA : Hid (ctB n d (x - (f I).1) = ctB n d (x - (f I).1)) := rfl
  have HA0 : Hid (x = (f I).1 → (dnI ((x - (f I).1) * (d + n)) d) = 0) := fun h => by rw [h]; simp [dnI]
  generalize hla : (upI ((x - (f I).1) * (d - n)) d) = la at *
  generalize hma : (dnI ((x - (f I).1) * (d + n)) d) = ma at *
  generalize hbA : ctB n d (x - (f I).1) = bA at *
  have HLA : Hid ((upI ((x - (f I).1) * (d - n)) d) = la) := hla
  have HMA : Hid ((dnI ((x - (f I).1) * (d + n)) d) = ma) := hma
  have HBA2 : Hid (ctB n d (x - (f I).1) = bA) := hbA
  clear hla hma hbA HBA
  obtain ⟨p0, p1, p2, p3, p4⟩ := id P
  go_wp2_with fail
  go_cut [14, 15] (fun s14 s15 wx => ∃ j : Nat, s14 = .pointer (some ⟨j, 0, none⟩) ∧ s15 = .bool bA ∧ Bx wx j (sel bA la) (sel bA ma) ∧ Bx wx w.heap.size n d ∧ Bx wx (w.heap.size + 1) 0 0 ∧ Prs wx b off m f ∧ w.heap.size + 1 < j ∧ Below w.heap.size w wx)
  case first =>
    refine wp_region_held_drew (S := (fun w' => w'.cell? ⟨w.heap.size, 0, none⟩ = some (.int .i64 n) ∧ w'.cell? ⟨w.heap.size, 1, none⟩ = some (.int .i64 d) ∧ w'.cell? ⟨b, off + I * 2, none⟩ = some (.int .i64 (f I).1))) (by kernel_rfl) ?_ (fun hHeld => ?_)
    · simp (maxDischargeDepth := 6) [go_sem, *]
    clear p0 p1 p2 p3 p4; (try clear n0 n1 n2 n3 n4)
    replace P := P.drew
    replace Q := Q.drew
    replace B := B.drew
    replace H := H.drew
    (try replace Y := Y.drew)
    replace q0 : v.drew.cell? ⟨b, off + I * 2, none⟩ = some (.int .i64 (f I).1) := q0
    replace bwr : b < v.drew.heap.size := bwr
    generalize v.drew = v at *
    obtain ⟨p0, p1, p2, p3, p4⟩ := id P; (try (obtain ⟨n0, n1, n2, n3, n4⟩ := id N))
    refine wpAnyH_take (i := 0) (v := ?_) (by rw [List.getElem?_toArray]; rfl) (by kernel_rfl) (by kernel_rfl) (by kernel_rfl) (by intro _ _ _ h; exact h) (Or.inl ⟨by rfl, ?_⟩) (by assumption) ?_
    rotate_left
    · (intro w hSw; (try dsimp only at hSw); go_simp; all_goals with_reducible rfl)
    (try simp only [Act.put, List.setIfInBounds_toArray, List.set_cons_zero, List.set_cons_succ])
    refine wpAnyH_take (i := 1) (v := ?_) (by rw [List.getElem?_toArray]; rfl) (by kernel_rfl) (by kernel_rfl) (by kernel_rfl) (by intro _ _ _ h; exact h) (Or.inl ⟨by rfl, ?_⟩) (by assumption) ?_
    rotate_left
    · (intro w hSw; (try dsimp only at hSw); go_simp; all_goals with_reducible rfl)
    (try simp only [Act.put, List.setIfInBounds_toArray, List.set_cons_zero, List.set_cons_succ])
    refine wpAnyH_take (i := 2) (v := ?_) (by rw [List.getElem?_toArray]; rfl) (by kernel_rfl) (by kernel_rfl) (by kernel_rfl) (by intro _ _ _ h; exact h) (Or.inl ⟨by rfl, ?_⟩) (by assumption) ?_
    rotate_left
    · (intro w hSw; (try dsimp only at hSw); go_simp; all_goals with_reducible rfl)
    (try simp only [Act.put, List.setIfInBounds_toArray, List.set_cons_zero, List.set_cons_succ])
    refine wpAnyH_take (i := 3) (v := ?_) (by rw [List.getElem?_toArray]; rfl) (by kernel_rfl) (by kernel_rfl) (by kernel_rfl) (by intro _ _ _ h; exact h) (Or.inl ⟨by rfl, ?_⟩) (by assumption) ?_
    rotate_left
    · (intro w hSw; (try dsimp only at hSw); go_simp; all_goals with_reducible rfl)
    (try simp only [Act.put, List.setIfInBounds_toArray, List.set_cons_zero, List.set_cons_succ])
    refine wpAnyH_take (i := 4) (v := ?_) (by rw [List.getElem?_toArray]; rfl) (by kernel_rfl) (by kernel_rfl) (by kernel_rfl) (by intro _ _ _ h; exact h) (Or.inl ⟨by rfl, ?_⟩) (by assumption) ?_
    rotate_left
    · (intro w hSw; (try dsimp only at hSw); go_simp; all_goals with_reducible rfl)
    (try simp only [Act.put, List.setIfInBounds_toArray, List.set_cons_zero, List.set_cons_succ])
    refine wpAnyH_take (i := 5) (v := ?_) (by rw [List.getElem?_toArray]; rfl) (by kernel_rfl) (by kernel_rfl) (by kernel_rfl) (by intro _ _ _ h; exact h) (Or.inl ⟨by rfl, ?_⟩) (by assumption) ?_
    rotate_left
    · (intro w hSw; (try dsimp only at hSw); go_simp; all_goals with_reducible rfl)
    (try simp only [Act.put, List.setIfInBounds_toArray, List.set_cons_zero, List.set_cons_succ])
    refine wpAnyH_take (i := 6) (v := ?_) (by rw [List.getElem?_toArray]; rfl) (by kernel_rfl) (by kernel_rfl) (by kernel_rfl) (by intro _ _ _ h; exact h) (Or.inl ⟨by rfl, ?_⟩) (by assumption) ?_
    rotate_left
    · (intro w hSw; (try dsimp only at hSw); go_simp; all_goals with_reducible rfl)
    (try simp only [Act.put, List.setIfInBounds_toArray, List.set_cons_zero, List.set_cons_succ])
    refine wpAnyH_take (i := 7) (v := ?_) (by rw [List.getElem?_toArray]; rfl) (by kernel_rfl) (by kernel_rfl) (by kernel_rfl) (by intro _ _ _ h; exact h) (Or.inl ⟨by rfl, ?_⟩) (by assumption) ?_
    rotate_left
    · (intro w hSw; (try dsimp only at hSw); go_simp; all_goals with_reducible rfl)
    (try simp only [Act.put, List.setIfInBounds_toArray, List.set_cons_zero, List.set_cons_succ])
    refine wpAnyH_take (i := 8) (v := ?_) (by rw [List.getElem?_toArray]; rfl) (by kernel_rfl) (by kernel_rfl) (by kernel_rfl) (by intro _ _ _ h; exact h) (Or.inl ⟨by rfl, ?_⟩) (by assumption) ?_
    rotate_left
    · (intro w hSw; (try dsimp only at hSw); go_simp; all_goals with_reducible rfl)
    (try simp only [Act.put, List.setIfInBounds_toArray, List.set_cons_zero, List.set_cons_succ])
    refine wpAnyH_take (i := 9) (v := ?_) (by rw [List.getElem?_toArray]; rfl) (by kernel_rfl) (by kernel_rfl) (by kernel_rfl) (by intro _ _ _ h; exact h) (Or.inl ⟨by rfl, ?_⟩) (by assumption) ?_
    rotate_left
    · (intro w hSw; (try dsimp only at hSw); go_simp; all_goals with_reducible rfl)
    (try simp only [Act.put, List.setIfInBounds_toArray, List.set_cons_zero, List.set_cons_succ])
    refine wpAnyH_ready (rs := [10, 14]) (by kernel_rfl) (by simp) ?_
    refine (AllReadyH.cons (by rw [List.getElem?_toArray]; rfl) (fun K hK => ?_) (AllReadyH.cons (by rw [List.getElem?_toArray]; rfl) (fun K hK => ?_) AllReadyH.nil))
    · go_simp
      refine (C1 _).mono ?_; rintro e v ⟨rfl, hb⟩; clear p0 p1 p2 p3 p4; (try clear n0 n1 n2 n3 n4); (replace P := P.below hb); (replace Q := Q.below hb); (replace H := H.belo hb); (try (replace N := N.below hb)); (try (replace Y := Y.below hb)); (replace B := B.trans (hb.mono B.size)); (replace q0 := (hb.cell (p := ⟨b, off + I * 2, none⟩) bwr).trans q0); (replace bwr := Nat.lt_of_lt_of_le bwr hb.size); clear hb; obtain ⟨p0, p1, p2, p3, p4⟩ := id P; (try (obtain ⟨n0, n1, n2, n3, n4⟩ := id N))
      (try go_wp2_with fail)
      refine hK.out _ _ ?_ (fun hHeld => ?_)
      · simp (maxDischargeDepth := 6) [go_sem, *]
      clear hK K
      (try simp only [Act.put, List.setIfInBounds_toArray, List.set_cons_zero, List.set_cons_succ])
      refine wpAnyH_take (i := 11) (v := ?_) (by rw [List.getElem?_toArray]; rfl) (by kernel_rfl) (by kernel_rfl) (by kernel_rfl) (by intro _ _ _ h; exact h) (Or.inl ⟨by rfl, ?_⟩) (by assumption) ?_
      rotate_left
      · (intro w hSw; (try dsimp only at hSw); go_simp; all_goals with_reducible rfl)
      (try simp only [Act.put, List.setIfInBounds_toArray, List.set_cons_zero, List.set_cons_succ])
      refine wpAnyH_take (i := 12) (v := ?_) (by rw [List.getElem?_toArray]; rfl) (by kernel_rfl) (by kernel_rfl) (by kernel_rfl) (by intro _ _ _ h; exact h) (Or.inl ⟨by rfl, ?_⟩) (by assumption) ?_
      rotate_left
      · (intro w hSw; (try dsimp only at hSw); go_simp; all_goals with_reducible rfl)
      (try simp only [Act.put, List.setIfInBounds_toArray, List.set_cons_zero, List.set_cons_succ])
      refine wpAnyH_take (i := 13) (v := ?_) (by rw [List.getElem?_toArray]; rfl) (by kernel_rfl) (by kernel_rfl) (by kernel_rfl) (by intro _ _ _ h; exact h) (Or.inl ⟨by rfl, ?_⟩) (by assumption) ?_
      rotate_left
      · (intro w hSw; (try dsimp only at hSw); go_simp; all_goals with_reducible rfl)
      (try simp only [Act.put, List.setIfInBounds_toArray, List.set_cons_zero, List.set_cons_succ])
      refine wpAnyH_ready (rs := [14]) (by kernel_rfl) (by simp) ?_
      refine (AllReadyH.cons (by rw [List.getElem?_toArray]; rfl) (fun K hK => ?_) AllReadyH.nil)
      go_simp
      (have N0 := Bx.new v 0 0 37); (have hj : w.heap.size + 1 < v.heap.size := Q.1); (have hjb : v.heap.size ≠ b := Nat.ne_of_gt bwr); (try (have hjY : v.heap.size ≠ jY := Nat.ne_of_gt Y.1)); (have hA := Below.alc v (.cells #[.int .i64 0, .int .i64 0] 37)); clear p0 p1 p2 p3 p4; (try clear n0 n1 n2 n3 n4); (replace P := P.below hA); (replace Q := Q.below hA); (replace H := H.belo hA); (try (replace N := N.below hA)); (try (replace Y := Y.below hA)); (replace B := B.trans (hA.mono B.size)); (replace q0 := (hA.cell (p := ⟨b, off + I * 2, none⟩) bwr).trans q0); (replace bwr := Nat.lt_of_lt_of_le bwr hA.size); clear hA; (have N := N0); clear N0; (generalize v.alloc (.cells #[.int .i64 0, .int .i64 0] 37) = v2 at *); obtain ⟨p0, p1, p2, p3, p4⟩ := id P; (try (obtain ⟨n0, n1, n2, n3, n4⟩ := id N))
      refine hK.out _ _ ?_ (fun hHeld => ?_)
      · simp (maxDischargeDepth := 6) [go_sem, *]
      clear hK K
      (try simp only [Act.put, List.setIfInBounds_toArray, List.set_cons_zero, List.set_cons_succ])
      refine wpAnyH_ready (rs := [15]) (by kernel_rfl) (by simp) ?_
      refine (AllReadyH.cons (by rw [List.getElem?_toArray]; rfl) (fun K hK => ?_) AllReadyH.nil)
      go_simp
      refine hK.out _ _ ?_ (fun hHeld => ?_)
      · simp (maxDischargeDepth := 6) [go_sem, *]
      clear hK K
      (try simp only [Act.put, List.setIfInBounds_toArray, List.set_cons_zero, List.set_cons_succ])
      refine wpAnyH_take (i := 16) (v := ?_) (by rw [List.getElem?_toArray]; rfl) (by kernel_rfl) (by kernel_rfl) (by kernel_rfl) (by intro _ _ _ h; exact h) (Or.inl ⟨by rfl, ?_⟩) (by assumption) ?_
      rotate_left
      · (intro w hSw; (try dsimp only at hSw); go_simp; all_goals with_reducible rfl)
      (try simp only [Act.put, List.setIfInBounds_toArray, List.set_cons_zero, List.set_cons_succ])
      refine wpAnyH_done (by kernel_rfl) ?_ _
      go_wp2_with fail
      go_meet
      case rel => exact ⟨_, rfl, rfl, N.set2 (sel bA la) (sel bA ma), P.set2O (by omega) (sel bA la) (sel bA ma), Q.set2O (by omega) (sel bA la) (sel bA ma), H.set2O hjb (sel bA la) (sel bA ma), hj, Below.set2 B (by omega) (sel bA la) (sel bA ma)⟩
    · go_simp
      (have N0 := Bx.new v 0 0 37); (have hj : w.heap.size + 1 < v.heap.size := Q.1); (have hjb : v.heap.size ≠ b := Nat.ne_of_gt bwr); (try (have hjY : v.heap.size ≠ jY := Nat.ne_of_gt Y.1)); (have hA := Below.alc v (.cells #[.int .i64 0, .int .i64 0] 37)); clear p0 p1 p2 p3 p4; (try clear n0 n1 n2 n3 n4); (replace P := P.below hA); (replace Q := Q.below hA); (replace H := H.belo hA); (try (replace N := N.below hA)); (try (replace Y := Y.below hA)); (replace B := B.trans (hA.mono B.size)); (replace q0 := (hA.cell (p := ⟨b, off + I * 2, none⟩) bwr).trans q0); (replace bwr := Nat.lt_of_lt_of_le bwr hA.size); clear hA; (have N := N0); clear N0; (generalize v.alloc (.cells #[.int .i64 0, .int .i64 0] 37) = v2 at *); obtain ⟨p0, p1, p2, p3, p4⟩ := id P; (try (obtain ⟨n0, n1, n2, n3, n4⟩ := id N))
      refine hK.out _ _ ?_ (fun hHeld => ?_)
      · simp (maxDischargeDepth := 6) [go_sem, *]
      clear hK K
      (try simp only [Act.put, List.setIfInBounds_toArray, List.set_cons_zero, List.set_cons_succ])
      refine wpAnyH_ready (rs := [10]) (by kernel_rfl) (by simp) ?_
      refine (AllReadyH.cons (by rw [List.getElem?_toArray]; rfl) (fun K hK => ?_) AllReadyH.nil)
      go_simp
      refine (C1 _).mono ?_; rintro e v ⟨rfl, hb⟩; clear p0 p1 p2 p3 p4; (try clear n0 n1 n2 n3 n4); (replace P := P.below hb); (replace Q := Q.below hb); (replace H := H.belo hb); (try (replace N := N.below hb)); (try (replace Y := Y.below hb)); (replace B := B.trans (hb.mono B.size)); (replace q0 := (hb.cell (p := ⟨b, off + I * 2, none⟩) bwr).trans q0); (replace bwr := Nat.lt_of_lt_of_le bwr hb.size); clear hb; obtain ⟨p0, p1, p2, p3, p4⟩ := id P; (try (obtain ⟨n0, n1, n2, n3, n4⟩ := id N))
      (try go_wp2_with fail)
      refine hK.out _ _ ?_ (fun hHeld => ?_)
      · simp (maxDischargeDepth := 6) [go_sem, *]
      clear hK K
      (try simp only [Act.put, List.setIfInBounds_toArray, List.set_cons_zero, List.set_cons_succ])
      refine wpAnyH_take (i := 11) (v := ?_) (by rw [List.getElem?_toArray]; rfl) (by kernel_rfl) (by kernel_rfl) (by kernel_rfl) (by intro _ _ _ h; exact h) (Or.inl ⟨by rfl, ?_⟩) (by assumption) ?_
      rotate_left
      · (intro w hSw; (try dsimp only at hSw); go_simp; all_goals with_reducible rfl)
      (try simp only [Act.put, List.setIfInBounds_toArray, List.set_cons_zero, List.set_cons_succ])
      refine wpAnyH_take (i := 12) (v := ?_) (by rw [List.getElem?_toArray]; rfl) (by kernel_rfl) (by kernel_rfl) (by kernel_rfl) (by intro _ _ _ h; exact h) (Or.inl ⟨by rfl, ?_⟩) (by assumption) ?_
      rotate_left
      · (intro w hSw; (try dsimp only at hSw); go_simp; all_goals with_reducible rfl)
      (try simp only [Act.put, List.setIfInBounds_toArray, List.set_cons_zero, List.set_cons_succ])
      refine wpAnyH_take (i := 13) (v := ?_) (by rw [List.getElem?_toArray]; rfl) (by kernel_rfl) (by kernel_rfl) (by kernel_rfl) (by intro _ _ _ h; exact h) (Or.inl ⟨by rfl, ?_⟩) (by assumption) ?_
      rotate_left
      · (intro w hSw; (try dsimp only at hSw); go_simp; all_goals with_reducible rfl)
      (try simp only [Act.put, List.setIfInBounds_toArray, List.set_cons_zero, List.set_cons_succ])
      refine wpAnyH_ready (rs := [15]) (by kernel_rfl) (by simp) ?_
      refine (AllReadyH.cons (by rw [List.getElem?_toArray]; rfl) (fun K hK => ?_) AllReadyH.nil)
      go_simp
      refine hK.out _ _ ?_ (fun hHeld => ?_)
      · simp (maxDischargeDepth := 6) [go_sem, *]
      clear hK K
      (try simp only [Act.put, List.setIfInBounds_toArray, List.set_cons_zero, List.set_cons_succ])
      refine wpAnyH_take (i := 16) (v := ?_) (by rw [List.getElem?_toArray]; rfl) (by kernel_rfl) (by kernel_rfl) (by kernel_rfl) (by intro _ _ _ h; exact h) (Or.inl ⟨by rfl, ?_⟩) (by assumption) ?_
      rotate_left
      · (intro w hSw; (try dsimp only at hSw); go_simp; all_goals with_reducible rfl)
      (try simp only [Act.put, List.setIfInBounds_toArray, List.set_cons_zero, List.set_cons_succ])
      refine wpAnyH_done (by kernel_rfl) ?_ _
      go_wp2_with fail
      go_meet
      case rel => exact ⟨_, rfl, rfl, N.set2 (sel bA la) (sel bA ma), P.set2O (by omega) (sel bA la) (sel bA ma), Q.set2O (by omega) (sel bA la) (sel bA ma), H.set2O hjb (sel bA la) (sel bA ma), hj, Below.set2 B (by omega) (sel bA la) (sel bA ma)⟩
  case rest =>
    obtain ⟨j, rfl, rfl, N, P', Q', H', hj, B'⟩ := hcut
    clear P Q H B p0 p1 p2 p3 p4 q0 bwr
    have P := P'
    have Q := Q'
    have H := H'
    have B := B'
    clear P' Q' H' B'
    generalize wc = v at *
    obtain ⟨r0, r1, r2, r3, r4⟩ := id Q
    cases bA
    · have HB : Hid ((whB (ctB n d) (fun x => upI (x * (d - n)) d) (fun x => dnI (x * (d + n)) d) (t1 f) (t2 f) x m) = false) := whB_a HI.out HBA2.out
      go_wp2_with fail
      exact bodyPost_ret (v := .tuple #[.agg #[.int .i64 0, .int .i64 0], .bool false]) (by simp (maxDischargeDepth := 6) [results, Try.results43, go_sem, *]) rfl ⟨by rw [HB.out, sel_f rfl, sel_f rfl], by repeat (first | refine Below.drew ?_ | refine Below.setCell ?_ (by first | (simp; done) | (simp; omega) | omega) _ | exact B)⟩
    have ⟨oa, om⟩ := AK.out rfl
    have ⟨o1, o2⟩ := okT_t oa
    have ⟨o3, o4⟩ := okT_t om
    have N' : Bx v j la ma := N
    clear N C1 AK oa om
    have q1 : v.cell? ⟨b, off + I * 2 + 1, none⟩ = some (.int .i64 (f I).2) := (H.2 I l1).2
    have bwr : b < v.heap.size := H.1
    obtain ⟨n0, n1, n2, n3, n4⟩ := id N'
    by_cases hl : I + 1 = m
    · have xe : x = (f I).1 := by have : m - 1 = I := by omega
                                  rw [this] at x2; omega
      have m0 := HA0.out xe
      have e1 := LE1.out
      have la0 : la = 0 := by omega
      have HO : Hid (okI ((f I).2 + la) ((f I).2 + ma) = true) := by rw [Hid, okI_mk (by omega) (by omega)]; simp; omega
      have WL : Hid ((whLo (fun x => upI (x * (d - n)) d) (fun x => dnI (x * (d + n)) d) (t1 f) (t2 f) x m) = (f I).2 + la) := by rw [← HLA.out]; exact whLo_last HI.out hl
      have WH : Hid ((whHi (fun x => upI (x * (d - n)) d) (fun x => dnI (x * (d + n)) d) (t1 f) (t2 f) x m) = (f I).2 + ma) := by rw [← HMA.out]; exact whHi_last HI.out hl
      have HB : Hid ((whB (ctB n d) (fun x => upI (x * (d - n)) d) (fun x => dnI (x * (d + n)) d) (t1 f) (t2 f) x m) = true) := whB_last HIN.out HI.out hl HBA2.out (by rw [WL.out, WH.out]; omega)
      have hN : ((I : Int) + 1 == (m : Int)) = true := by rw [beq_iff_eq]; omega
      have A1 := Below.alc v (.cells #[.int .i64 ((f I).2 + la), .int .i64 ((f I).2 + ma)] 37)
      have B1 := B.trans (A1.mono B.size)
      have Q1 := Q.below A1
      have Y1 := Bx.new v ((f I).2 + la) ((f I).2 + ma) 37
      clear A1 xe m0 la0 hl LE1 e1
      go_wp2_with fail
      refine (told_any _ _ _).mono ?_
      rintro e v3 ⟨rfl, hb⟩
      rw [HO.out, sel_t rfl, sel_t rfl]
      have B2 := B1.trans (hb.mono B1.size)
      have Q2 := Q1.below hb
      clear hb r0 r1 r2 r3 r4
      obtain ⟨r0, r1, r2, r3, r4⟩ := id Q2
      go_wp2_with fail
      exact bodyPost_ret (v := .tuple #[.agg #[.int .i64 ((f I).2 + la), .int .i64 ((f I).2 + ma)], .bool true]) (by simp (maxDischargeDepth := 6) [results, Try.results43, go_sem, *]) rfl ⟨by rw [HB.out, sel_t rfl, sel_t rfl, WL.out, WH.out], by repeat (first | refine Below.drew ?_ | refine Below.setCell ?_ (by first | (simp; done) | (simp; omega) | omega) _ | exact B2)⟩
    have hJm0 : I + 1 < m := by omega
    have g1 := L3.out (I + 1) (by omega) hJm0
    have WL : Hid ((whLo (fun x => upI (x * (d - n)) d) (fun x => dnI (x * (d + n)) d) (t1 f) (t2 f) x m) = imx ((f I).2 + la) ((f (I + 1)).2 - (dnI (((f (I + 1)).1 - x) * (d + n)) d))) := by rw [← HLA.out]; exact whLo_next HI.out hl
    have WH : Hid ((whHi (fun x => upI (x * (d - n)) d) (fun x => dnI (x * (d + n)) d) (t1 f) (t2 f) x m) = imn ((f I).2 + ma) ((f (I + 1)).2 - (upI (((f (I + 1)).1 - x) * (d - n)) d))) := by rw [← HMA.out]; exact whHi_next HI.out hl
    have HF1 : Hid (ctB n d ((f (I + 1)).1 - x) = false → (whB (ctB n d) (fun x => upI (x * (d - n)) d) (fun x => dnI (x * (d + n)) d) (t1 f) (t2 f) x m) = false) := fun h => whB_b HI.out hl h
    have HF2 : Hid (¬ (whLo (fun x => upI (x * (d - n)) d) (fun x => dnI (x * (d + n)) d) (t1 f) (t2 f) x m) ≤ (whHi (fun x => upI (x * (d - n)) d) (fun x => dnI (x * (d + n)) d) (t1 f) (t2 f) x m) → (whB (ctB n d) (fun x => upI (x * (d - n)) d) (fun x => dnI (x * (d + n)) d) (t1 f) (t2 f) x m) = false) := fun h => whB_c h
    have HF3 : Hid (ctB n d ((f (I + 1)).1 - x) = true → (whLo (fun x => upI (x * (d - n)) d) (fun x => dnI (x * (d + n)) d) (t1 f) (t2 f) x m) ≤ (whHi (fun x => upI (x * (d - n)) d) (fun x => dnI (x * (d + n)) d) (t1 f) (t2 f) x m) → (whB (ctB n d) (fun x => upI (x * (d - n)) d) (fun x => dnI (x * (d + n)) d) (t1 f) (t2 f) x m) = true) := fun h1 h2 => whB_next HIN.out HI.out hl HBA2.out h1 h2
    have hJ1 : (I : Int) + 1 = ((I + 1 : Nat) : Int) := by omega
    have hJm : ((I + 1 : Nat) : Int) < (m : Int) := by omega
    have hN : (((I + 1 : Nat) : Int) == (m : Int)) = false := by rw [beq_eq_false_iff_ne]; omega
    have hwJ : IntKind.i64.wrap ((I + 1 : Nat) : Int) = ((I + 1 : Nat) : Int) := Go.IntWalk.i64_in _ ⟨by omega, by omega⟩
    clear hl HIN HI L3 HA0 LE1 HBA2 HLA HMA
    generalize hJe : I + 1 = J at *
    clear hJe
    have ⟨j1, j2⟩ := okT_t (HOK.out J hJm0).1
    have ⟨j3, j4⟩ := okT_t (HOK.out J hJm0).2
    have wB : IntKind.i64.wrap ((f J).1 - x) = ((f J).1 - x) := Go.IntWalk.i64_in _ ⟨by omega, by omega⟩
    have BK : Hid (ctB n d ((f J).1 - x) = true → okT (upI (((f J).1 - x) * (d - n)) d) = true ∧ okT (dnI (((f J).1 - x) * (d + n)) d) = true) := fun h => ct_ok h
    have C2 := fun w' => fromToC_any n d ((f J).1 - x) w'
    generalize (upI (((f J).1 - x) * (d - n)) d) = lb at *
    generalize (dnI (((f J).1 - x) * (d + n)) d) = mb at *
    generalize ctB n d ((f J).1 - x) = bB at *
    have A1 := Below.alc v (.cells #[.int .i64 ((f I).2 + la), .int .i64 ((f I).2 + ma)] 37)
    have Y1 := Bx.new v ((f I).2 + la) ((f I).2 + ma) 37
    have B1 := B.trans (A1.mono B.size)
    have P1 := P.below A1
    have Q1 := Q.below A1
    have H1 := H.belo A1
    clear A1
    have k0 : (v.alloc (.cells #[.int .i64 ((f I).2 + la), .int .i64 ((f I).2 + ma)] 37)).cell? ⟨b, off + J * 2, none⟩ = some (.int .i64 (f J).1) := (H1.2 J hJm0).1
    obtain ⟨p0, p1, p2, p3, p4⟩ := id P1
    go_wp2_with fail
    clear N' n0 n1 n2 n3 n4 r0 r1 r2 r3 r4 q1 bwr P Q B H
    have P := P1
    have Q := Q1
    have B := B1
    have H := H1
    have q0 := k0
    clear P1 Q1 B1 H1 k0
    have bwr := H.1
    generalize v.heap.size = jY at *
    have Y := Y1
    clear Y1
    generalize v.alloc (.cells #[.int .i64 ((f I).2 + la), .int .i64 ((f I).2 + ma)] 37) = v at *
    go_cut [18, 15] (fun s18 s15 wx => ∃ j : Nat, s18 = .pointer (some ⟨j, 0, none⟩) ∧ s15 = .bool bB ∧ Bx wx j (sel bB lb) (sel bB mb) ∧ Bx wx jY ((f I).2 + la) ((f I).2 + ma) ∧ Bx wx (w.heap.size + 1) 0 0 ∧ Prs wx b off m f ∧ Below w.heap.size w wx)
    case first =>
      refine wp_region_held_drew (S := (fun w' => w'.cell? ⟨w.heap.size, 0, none⟩ = some (.int .i64 n) ∧ w'.cell? ⟨w.heap.size, 1, none⟩ = some (.int .i64 d) ∧ w'.cell? ⟨b, off + J * 2, none⟩ = some (.int .i64 (f J).1))) (by kernel_rfl) ?_ (fun hHeld => ?_)
      · simp (maxDischargeDepth := 6) [go_sem, *]
      clear p0 p1 p2 p3 p4; (try clear n0 n1 n2 n3 n4)
      replace P := P.drew
      replace Q := Q.drew
      replace B := B.drew
      replace H := H.drew
      (try replace Y := Y.drew)
      replace q0 : v.drew.cell? ⟨b, off + J * 2, none⟩ = some (.int .i64 (f J).1) := q0
      replace bwr : b < v.drew.heap.size := bwr
      generalize v.drew = v at *
      obtain ⟨p0, p1, p2, p3, p4⟩ := id P; (try (obtain ⟨n0, n1, n2, n3, n4⟩ := id N))
      refine wpAnyH_take (i := 0) (v := ?_) (by rw [List.getElem?_toArray]; rfl) (by kernel_rfl) (by kernel_rfl) (by kernel_rfl) (by intro _ _ _ h; exact h) (Or.inl ⟨by rfl, ?_⟩) (by assumption) ?_
      rotate_left
      · (intro w hSw; (try dsimp only at hSw); go_simp; all_goals with_reducible rfl)
      (try simp only [Act.put, List.setIfInBounds_toArray, List.set_cons_zero, List.set_cons_succ])
      refine wpAnyH_take (i := 1) (v := ?_) (by rw [List.getElem?_toArray]; rfl) (by kernel_rfl) (by kernel_rfl) (by kernel_rfl) (by intro _ _ _ h; exact h) (Or.inl ⟨by rfl, ?_⟩) (by assumption) ?_
      rotate_left
      · (intro w hSw; (try dsimp only at hSw); go_simp; all_goals with_reducible rfl)
      (try simp only [Act.put, List.setIfInBounds_toArray, List.set_cons_zero, List.set_cons_succ])
      refine wpAnyH_take (i := 2) (v := ?_) (by rw [List.getElem?_toArray]; rfl) (by kernel_rfl) (by kernel_rfl) (by kernel_rfl) (by intro _ _ _ h; exact h) (Or.inl ⟨by rfl, ?_⟩) (by assumption) ?_
      rotate_left
      · (intro w hSw; (try dsimp only at hSw); go_simp; all_goals with_reducible rfl)
      (try simp only [Act.put, List.setIfInBounds_toArray, List.set_cons_zero, List.set_cons_succ])
      refine wpAnyH_take (i := 3) (v := ?_) (by rw [List.getElem?_toArray]; rfl) (by kernel_rfl) (by kernel_rfl) (by kernel_rfl) (by intro _ _ _ h; exact h) (Or.inl ⟨by rfl, ?_⟩) (by assumption) ?_
      rotate_left
      · (intro w hSw; (try dsimp only at hSw); go_simp; all_goals with_reducible rfl)
      (try simp only [Act.put, List.setIfInBounds_toArray, List.set_cons_zero, List.set_cons_succ])
      refine wpAnyH_take (i := 4) (v := ?_) (by rw [List.getElem?_toArray]; rfl) (by kernel_rfl) (by kernel_rfl) (by kernel_rfl) (by intro _ _ _ h; exact h) (Or.inl ⟨by rfl, ?_⟩) (by assumption) ?_
      rotate_left
      · (intro w hSw; (try dsimp only at hSw); go_simp; all_goals with_reducible rfl)
      (try simp only [Act.put, List.setIfInBounds_toArray, List.set_cons_zero, List.set_cons_succ])
      refine wpAnyH_take (i := 5) (v := ?_) (by rw [List.getElem?_toArray]; rfl) (by kernel_rfl) (by kernel_rfl) (by kernel_rfl) (by intro _ _ _ h; exact h) (Or.inl ⟨by rfl, ?_⟩) (by assumption) ?_
      rotate_left
      · (intro w hSw; (try dsimp only at hSw); go_simp; all_goals with_reducible rfl)
      (try simp only [Act.put, List.setIfInBounds_toArray, List.set_cons_zero, List.set_cons_succ])
      refine wpAnyH_take (i := 6) (v := ?_) (by rw [List.getElem?_toArray]; rfl) (by kernel_rfl) (by kernel_rfl) (by kernel_rfl) (by intro _ _ _ h; exact h) (Or.inl ⟨by rfl, ?_⟩) (by assumption) ?_
      rotate_left
      · (intro w hSw; (try dsimp only at hSw); go_simp; all_goals with_reducible rfl)
      (try simp only [Act.put, List.setIfInBounds_toArray, List.set_cons_zero, List.set_cons_succ])
      refine wpAnyH_take (i := 7) (v := ?_) (by rw [List.getElem?_toArray]; rfl) (by kernel_rfl) (by kernel_rfl) (by kernel_rfl) (by intro _ _ _ h; exact h) (Or.inl ⟨by rfl, ?_⟩) (by assumption) ?_
      rotate_left
      · (intro w hSw; (try dsimp only at hSw); go_simp; all_goals with_reducible rfl)
      (try simp only [Act.put, List.setIfInBounds_toArray, List.set_cons_zero, List.set_cons_succ])
      refine wpAnyH_take (i := 8) (v := ?_) (by rw [List.getElem?_toArray]; rfl) (by kernel_rfl) (by kernel_rfl) (by kernel_rfl) (by intro _ _ _ h; exact h) (Or.inl ⟨by rfl, ?_⟩) (by assumption) ?_
      rotate_left
      · (intro w hSw; (try dsimp only at hSw); go_simp; all_goals with_reducible rfl)
      (try simp only [Act.put, List.setIfInBounds_toArray, List.set_cons_zero, List.set_cons_succ])
      refine wpAnyH_take (i := 9) (v := ?_) (by rw [List.getElem?_toArray]; rfl) (by kernel_rfl) (by kernel_rfl) (by kernel_rfl) (by intro _ _ _ h; exact h) (Or.inl ⟨by rfl, ?_⟩) (by assumption) ?_
      rotate_left
      · (intro w hSw; (try dsimp only at hSw); go_simp; all_goals with_reducible rfl)
      (try simp only [Act.put, List.setIfInBounds_toArray, List.set_cons_zero, List.set_cons_succ])
      refine wpAnyH_take (i := 10) (v := ?_) (by rw [List.getElem?_toArray]; rfl) (by kernel_rfl) (by kernel_rfl) (by kernel_rfl) (by intro _ _ _ h; exact h) (Or.inl ⟨by rfl, ?_⟩) (by assumption) ?_
      rotate_left
      · (intro w hSw; (try dsimp only at hSw); go_simp; all_goals with_reducible rfl)
      (try simp only [Act.put, List.setIfInBounds_toArray, List.set_cons_zero, List.set_cons_succ])
      refine wpAnyH_ready (rs := [11, 15]) (by kernel_rfl) (by simp) ?_
      refine (AllReadyH.cons (by rw [List.getElem?_toArray]; rfl) (fun K hK => ?_) (AllReadyH.cons (by rw [List.getElem?_toArray]; rfl) (fun K hK => ?_) AllReadyH.nil))
      · go_simp
        refine (C2 _).mono ?_; rintro e v ⟨rfl, hb⟩; clear p0 p1 p2 p3 p4; (try clear n0 n1 n2 n3 n4); (replace P := P.below hb); (replace Q := Q.below hb); (replace H := H.belo hb); (try (replace N := N.below hb)); (try (replace Y := Y.below hb)); (replace B := B.trans (hb.mono B.size)); (replace q0 := (hb.cell (p := ⟨b, off + J * 2, none⟩) bwr).trans q0); (replace bwr := Nat.lt_of_lt_of_le bwr hb.size); clear hb; obtain ⟨p0, p1, p2, p3, p4⟩ := id P; (try (obtain ⟨n0, n1, n2, n3, n4⟩ := id N))
        (try go_wp2_with fail)
        refine hK.out _ _ ?_ (fun hHeld => ?_)
        · simp (maxDischargeDepth := 6) [go_sem, *]
        clear hK K
        (try simp only [Act.put, List.setIfInBounds_toArray, List.set_cons_zero, List.set_cons_succ])
        refine wpAnyH_take (i := 12) (v := ?_) (by rw [List.getElem?_toArray]; rfl) (by kernel_rfl) (by kernel_rfl) (by kernel_rfl) (by intro _ _ _ h; exact h) (Or.inl ⟨by rfl, ?_⟩) (by assumption) ?_
        rotate_left
        · (intro w hSw; (try dsimp only at hSw); go_simp; all_goals with_reducible rfl)
        (try simp only [Act.put, List.setIfInBounds_toArray, List.set_cons_zero, List.set_cons_succ])
        refine wpAnyH_take (i := 13) (v := ?_) (by rw [List.getElem?_toArray]; rfl) (by kernel_rfl) (by kernel_rfl) (by kernel_rfl) (by intro _ _ _ h; exact h) (Or.inl ⟨by rfl, ?_⟩) (by assumption) ?_
        rotate_left
        · (intro w hSw; (try dsimp only at hSw); go_simp; all_goals with_reducible rfl)
        (try simp only [Act.put, List.setIfInBounds_toArray, List.set_cons_zero, List.set_cons_succ])
        refine wpAnyH_take (i := 14) (v := ?_) (by rw [List.getElem?_toArray]; rfl) (by kernel_rfl) (by kernel_rfl) (by kernel_rfl) (by intro _ _ _ h; exact h) (Or.inl ⟨by rfl, ?_⟩) (by assumption) ?_
        rotate_left
        · (intro w hSw; (try dsimp only at hSw); go_simp; all_goals with_reducible rfl)
        (try simp only [Act.put, List.setIfInBounds_toArray, List.set_cons_zero, List.set_cons_succ])
        refine wpAnyH_ready (rs := [15]) (by kernel_rfl) (by simp) ?_
        refine (AllReadyH.cons (by rw [List.getElem?_toArray]; rfl) (fun K hK => ?_) AllReadyH.nil)
        go_simp
        (have N0 := Bx.new v 0 0 37); (have hj : w.heap.size + 1 < v.heap.size := Q.1); (have hjb : v.heap.size ≠ b := Nat.ne_of_gt bwr); (try (have hjY : v.heap.size ≠ jY := Nat.ne_of_gt Y.1)); (have hA := Below.alc v (.cells #[.int .i64 0, .int .i64 0] 37)); clear p0 p1 p2 p3 p4; (try clear n0 n1 n2 n3 n4); (replace P := P.below hA); (replace Q := Q.below hA); (replace H := H.belo hA); (try (replace N := N.below hA)); (try (replace Y := Y.below hA)); (replace B := B.trans (hA.mono B.size)); (replace q0 := (hA.cell (p := ⟨b, off + J * 2, none⟩) bwr).trans q0); (replace bwr := Nat.lt_of_lt_of_le bwr hA.size); clear hA; (have N := N0); clear N0; (generalize v.alloc (.cells #[.int .i64 0, .int .i64 0] 37) = v2 at *); obtain ⟨p0, p1, p2, p3, p4⟩ := id P; (try (obtain ⟨n0, n1, n2, n3, n4⟩ := id N))
        refine hK.out _ _ ?_ (fun hHeld => ?_)
        · simp (maxDischargeDepth := 6) [go_sem, *]
        clear hK K
        (try simp only [Act.put, List.setIfInBounds_toArray, List.set_cons_zero, List.set_cons_succ])
        refine wpAnyH_ready (rs := [16]) (by kernel_rfl) (by simp) ?_
        refine (AllReadyH.cons (by rw [List.getElem?_toArray]; rfl) (fun K hK => ?_) AllReadyH.nil)
        go_simp
        refine hK.out _ _ ?_ (fun hHeld => ?_)
        · simp (maxDischargeDepth := 6) [go_sem, *]
        clear hK K
        (try simp only [Act.put, List.setIfInBounds_toArray, List.set_cons_zero, List.set_cons_succ])
        refine wpAnyH_take (i := 17) (v := ?_) (by rw [List.getElem?_toArray]; rfl) (by kernel_rfl) (by kernel_rfl) (by kernel_rfl) (by intro _ _ _ h; exact h) (Or.inl ⟨by rfl, ?_⟩) (by assumption) ?_
        rotate_left
        · (intro w hSw; (try dsimp only at hSw); go_simp; all_goals with_reducible rfl)
        (try simp only [Act.put, List.setIfInBounds_toArray, List.set_cons_zero, List.set_cons_succ])
        refine wpAnyH_done (by kernel_rfl) ?_ _
        go_wp2_with fail
        go_meet
        case rel => exact ⟨_, rfl, rfl, N.set2 (sel bB lb) (sel bB mb), Y.set2O hjY (sel bB lb) (sel bB mb), Q.set2O (by omega) (sel bB lb) (sel bB mb), H.set2O hjb (sel bB lb) (sel bB mb), Below.set2 B (by omega) (sel bB lb) (sel bB mb)⟩
      · go_simp
        (have N0 := Bx.new v 0 0 37); (have hj : w.heap.size + 1 < v.heap.size := Q.1); (have hjb : v.heap.size ≠ b := Nat.ne_of_gt bwr); (try (have hjY : v.heap.size ≠ jY := Nat.ne_of_gt Y.1)); (have hA := Below.alc v (.cells #[.int .i64 0, .int .i64 0] 37)); clear p0 p1 p2 p3 p4; (try clear n0 n1 n2 n3 n4); (replace P := P.below hA); (replace Q := Q.below hA); (replace H := H.belo hA); (try (replace N := N.below hA)); (try (replace Y := Y.below hA)); (replace B := B.trans (hA.mono B.size)); (replace q0 := (hA.cell (p := ⟨b, off + J * 2, none⟩) bwr).trans q0); (replace bwr := Nat.lt_of_lt_of_le bwr hA.size); clear hA; (have N := N0); clear N0; (generalize v.alloc (.cells #[.int .i64 0, .int .i64 0] 37) = v2 at *); obtain ⟨p0, p1, p2, p3, p4⟩ := id P; (try (obtain ⟨n0, n1, n2, n3, n4⟩ := id N))
        refine hK.out _ _ ?_ (fun hHeld => ?_)
        · simp (maxDischargeDepth := 6) [go_sem, *]
        clear hK K
        (try simp only [Act.put, List.setIfInBounds_toArray, List.set_cons_zero, List.set_cons_succ])
        refine wpAnyH_ready (rs := [11]) (by kernel_rfl) (by simp) ?_
        refine (AllReadyH.cons (by rw [List.getElem?_toArray]; rfl) (fun K hK => ?_) AllReadyH.nil)
        go_simp
        refine (C2 _).mono ?_; rintro e v ⟨rfl, hb⟩; clear p0 p1 p2 p3 p4; (try clear n0 n1 n2 n3 n4); (replace P := P.below hb); (replace Q := Q.below hb); (replace H := H.belo hb); (try (replace N := N.below hb)); (try (replace Y := Y.below hb)); (replace B := B.trans (hb.mono B.size)); (replace q0 := (hb.cell (p := ⟨b, off + J * 2, none⟩) bwr).trans q0); (replace bwr := Nat.lt_of_lt_of_le bwr hb.size); clear hb; obtain ⟨p0, p1, p2, p3, p4⟩ := id P; (try (obtain ⟨n0, n1, n2, n3, n4⟩ := id N))
        (try go_wp2_with fail)
        refine hK.out _ _ ?_ (fun hHeld => ?_)
        · simp (maxDischargeDepth := 6) [go_sem, *]
        clear hK K
        (try simp only [Act.put, List.setIfInBounds_toArray, List.set_cons_zero, List.set_cons_succ])
        refine wpAnyH_take (i := 12) (v := ?_) (by rw [List.getElem?_toArray]; rfl) (by kernel_rfl) (by kernel_rfl) (by kernel_rfl) (by intro _ _ _ h; exact h) (Or.inl ⟨by rfl, ?_⟩) (by assumption) ?_
        rotate_left
        · (intro w hSw; (try dsimp only at hSw); go_simp; all_goals with_reducible rfl)
        (try simp only [Act.put, List.setIfInBounds_toArray, List.set_cons_zero, List.set_cons_succ])
        refine wpAnyH_take (i := 13) (v := ?_) (by rw [List.getElem?_toArray]; rfl) (by kernel_rfl) (by kernel_rfl) (by kernel_rfl) (by intro _ _ _ h; exact h) (Or.inl ⟨by rfl, ?_⟩) (by assumption) ?_
        rotate_left
        · (intro w hSw; (try dsimp only at hSw); go_simp; all_goals with_reducible rfl)
        (try simp only [Act.put, List.setIfInBounds_toArray, List.set_cons_zero, List.set_cons_succ])
        refine wpAnyH_take (i := 14) (v := ?_) (by rw [List.getElem?_toArray]; rfl) (by kernel_rfl) (by kernel_rfl) (by kernel_rfl) (by intro _ _ _ h; exact h) (Or.inl ⟨by rfl, ?_⟩) (by assumption) ?_
        rotate_left
        · (intro w hSw; (try dsimp only at hSw); go_simp; all_goals with_reducible rfl)
        (try simp only [Act.put, List.setIfInBounds_toArray, List.set_cons_zero, List.set_cons_succ])
        refine wpAnyH_ready (rs := [16]) (by kernel_rfl) (by simp) ?_
        refine (AllReadyH.cons (by rw [List.getElem?_toArray]; rfl) (fun K hK => ?_) AllReadyH.nil)
        go_simp
        refine hK.out _ _ ?_ (fun hHeld => ?_)
        · simp (maxDischargeDepth := 6) [go_sem, *]
        clear hK K
        (try simp only [Act.put, List.setIfInBounds_toArray, List.set_cons_zero, List.set_cons_succ])
        refine wpAnyH_take (i := 17) (v := ?_) (by rw [List.getElem?_toArray]; rfl) (by kernel_rfl) (by kernel_rfl) (by kernel_rfl) (by intro _ _ _ h; exact h) (Or.inl ⟨by rfl, ?_⟩) (by assumption) ?_
        rotate_left
        · (intro w hSw; (try dsimp only at hSw); go_simp; all_goals with_reducible rfl)
        (try simp only [Act.put, List.setIfInBounds_toArray, List.set_cons_zero, List.set_cons_succ])
        refine wpAnyH_done (by kernel_rfl) ?_ _
        go_wp2_with fail
        go_meet
        case rel => exact ⟨_, rfl, rfl, N.set2 (sel bB lb) (sel bB mb), Y.set2O hjY (sel bB lb) (sel bB mb), Q.set2O (by omega) (sel bB lb) (sel bB mb), H.set2O hjb (sel bB lb) (sel bB mb), Below.set2 B (by omega) (sel bB lb) (sel bB mb)⟩
    case rest =>
      obtain ⟨jN, rfl, rfl, N, Y', Q', H', B'⟩ := hcut
      clear P Q H B p0 p1 p2 p3 p4 q0 bwr Y
      generalize wc = v at *
      obtain ⟨r0, r1, r2, r3, r4⟩ := id Q'
      obtain ⟨y5, y6, y7, y8, y9⟩ := id Y'
      cases bB
      · have HB : Hid ((whB (ctB n d) (fun x => upI (x * (d - n)) d) (fun x => dnI (x * (d + n)) d) (t1 f) (t2 f) x m) = false) := HF1.out rfl
        go_wp2_with fail
        exact bodyPost_ret (v := .tuple #[.agg #[.int .i64 0, .int .i64 0], .bool false]) (by simp (maxDischargeDepth := 6) [results, Try.results43, go_sem, *]) rfl ⟨by rw [HB.out, sel_f rfl, sel_f rfl], by repeat (first | refine Below.drew ?_ | refine Below.setCell ?_ (by first | (simp; done) | (simp; omega) | omega) _ | exact B')⟩
      have ⟨ob, on⟩ := BK.out rfl
      have ⟨o5, o6⟩ := okT_t ob
      have ⟨o7, o8⟩ := okT_t on
      have N' : Bx v jN lb mb := N
      clear N C2 BK ob on
      have q1 : v.cell? ⟨b, off + J * 2 + 1, none⟩ = some (.int .i64 (f J).2) := (H'.2 J hJm0).2
      have bwr : b < v.heap.size := H'.1
      obtain ⟨n0, n1, n2, n3, n4⟩ := id N'
      have HO : Hid (okI (imx ((f I).2 + la) ((f J).2 - mb)) (imn ((f I).2 + ma) ((f J).2 - lb)) = (whB (ctB n d) (fun x => upI (x * (d - n)) d) (fun x => dnI (x * (d + n)) d) (t1 f) (t2 f) x m)) := by
        have e1 := imx_ge ((f I).2 + la) ((f J).2 - mb)
        have e2 := imn_le ((f I).2 + ma) ((f J).2 - lb)
        rw [Hid, okI_mk (by omega) (by omega)]
        by_cases hc : (whLo (fun x => upI (x * (d - n)) d) (fun x => dnI (x * (d + n)) d) (t1 f) (t2 f) x m) ≤ (whHi (fun x => upI (x * (d - n)) d) (fun x => dnI (x * (d + n)) d) (t1 f) (t2 f) x m)
        · rw [HF3.out rfl hc, decide_eq_true_eq, ← WL.out, ← WH.out]; exact hc
        · rw [HF2.out (by first | exact hc | omega), decide_eq_false_iff_not, ← WL.out, ← WH.out]; exact hc
      have B1 := B'
      go_wp2_with fail
      refine (meet_any _ _ _ _ _).mono ?_
      rintro e v3 ⟨rfl, hb⟩
      have B2 := B1.trans (hb.mono B1.size)
      have Q2 := Q'.below hb
      clear hb
      go_wp2_with fail
      refine (told_any _ _ _).mono ?_
      rintro e v4 ⟨rfl, hb⟩
      rw [HO.out]
      have B3 := B2.trans (hb.mono B2.size)
      have Q3 := Q2.below hb
      clear hb r0 r1 r2 r3 r4
      obtain ⟨r0, r1, r2, r3, r4⟩ := id Q3
      go_wp2_with fail
      exact bodyPost_ret (v := .tuple #[.agg #[.int .i64 (sel (whB (ctB n d) (fun x => upI (x * (d - n)) d) (fun x => dnI (x * (d + n)) d) (t1 f) (t2 f) x m) (imx ((f I).2 + la) ((f J).2 - mb))), .int .i64 (sel (whB (ctB n d) (fun x => upI (x * (d - n)) d) (fun x => dnI (x * (d + n)) d) (t1 f) (t2 f) x m) (imn ((f I).2 + ma) ((f J).2 - lb)))], .bool (whB (ctB n d) (fun x => upI (x * (d - n)) d) (fun x => dnI (x * (d + n)) d) (t1 f) (t2 f) x m)]) (by simp (maxDischargeDepth := 6) [results, Try.results43, go_sem, *]) rfl ⟨by rw [WL.out, WH.out], by repeat (first | refine Below.drew ?_ | refine Below.setCell ?_ (by first | (simp; done) | (simp; omega) | omega) _ | exact B3)⟩
end Go.Proofs.Ytdgfneloaopleaa
