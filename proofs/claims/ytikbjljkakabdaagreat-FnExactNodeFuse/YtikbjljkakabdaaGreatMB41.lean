/- Contracts of PeersCarried. -/
import Derived.Test.YtikbjljkakabdaaGreatMB0
import Derived.Test.YtikbjljkakabdaaGreatMB30
import Derived.Test.YtikbjljkakabdaaGreatMB32
namespace Go.Proofs.YtikbjljkakabdaaGreat
open Go.RowKit
set_option linter.unusedVariables false
set_option maxRecDepth 100000
set_option maxHeartbeats 16000000
theorem bS (w : World) (j : Nat) (a b : Value) : But j w ((w.setCell ⟨j, 0, none⟩ a).setCell ⟨j, 1, none⟩ b) := ((But.refl j w).setCell 0 a).setCell 1 b
theorem Bx2.two {w : World} {j : Nat} {u v : Value} (h : Bx2 w j u v) (a b : Value) : Bx2 ((w.setCell ⟨j, 0, none⟩ a).setCell ⟨j, 1, none⟩ b) j a b := (h.set0 a).set1 b
theorem j0 (x0 x1 x2 x3 : Int) (x4 : Bool) (n d x : Int) (w : World) :
 Calls Tryz.prog 145 #[.agg #[.int .i64 x0, .int .i64 x1, .int .i64 x2, .int .i64 x3, .bool x4], .agg #[.int .i64 n, .int .i64 d], .int .i64 x] w fun e w' => e = .returned (.tuple #[.agg #[.int .i64 (crL true x1 x2 x3 n d x), .int .i64 (crH true x1 x2 x3 n d x)], .bool (crC true x1 x2 x3 n d x == 0)]) ∧ Below w.heap.size w w' := by
 have CB := fun v => dp true x1 x2 x3 n d x v
 generalize crL true x1 x2 x3 n d x = U at *
 generalize crH true x1 x2 x3 n d x = D at *
 generalize crC true x1 x2 x3 n d x = C at *
 have P := ((Bx5.new w (.int .i64 x0) (.int .i64 x1) (.int .i64 x2) (.int .i64 x3) (.bool x4) 154).alloc (.cells #[.int .i64 n, .int .i64 d] 61)).alloc (.cells #[.int .i64 0, .int .i64 0] 47)
 have Q := (Bx2.new (w.alloc (.cells #[.int .i64 x0, .int .i64 x1, .int .i64 x2, .int .i64 x3, .bool x4] 154)) (.int .i64 n) (.int .i64 d) 61).alloc (.cells #[.int .i64 0, .int .i64 0] 47)
 have R := Bx2.new ((w.alloc (.cells #[.int .i64 x0, .int .i64 x1, .int .i64 x2, .int .i64 x3, .bool x4] 154)).alloc (.cells #[.int .i64 n, .int .i64 d] 61)) (.int .i64 0) (.int .i64 0) 47
 simp only [World.size_alloc] at Q R
 have B := ((Below.nw w (.cells #[.int .i64 x0, .int .i64 x1, .int .i64 x2, .int .i64 x3, .bool x4] 154)).alloc (by simp) (.cells #[.int .i64 n, .int .i64 d] 61)).alloc (by simp; omega) (.cells #[.int .i64 0, .int .i64 0] 47)
 go_enter Tryz.func145, Tryz.ntmps145
 go_upto_region 1 with fail
 generalize ((w.alloc (.cells #[.int .i64 x0, .int .i64 x1, .int .i64 x2, .int .i64 x3, .bool x4] 154)).alloc (.cells #[.int .i64 n, .int .i64 d] 61)).alloc (.cells #[.int .i64 0, .int .i64 0] 47) = v at *
 obtain ⟨a0, a1, a2, a3, a4, a5, a6, a7, a8, a9, b1⟩ := id P; obtain ⟨q0, q1, q2, q3, q4⟩ := id Q; have r0 : _ ∧ _ := R; (try (have n0 : _ ∧ _ := N))
 go_cut [8, 9] (fun s8 s9 wx => ∃ j : Nat, s8 = .pointer (some ⟨j, 0, none⟩) ∧ s9 = .int .i64 C ∧ Bx2 wx j (.int .i64 U) (.int .i64 D) ∧ w.heap.size + 2 < j ∧ Bx2 wx (w.heap.size + 2) (.int .i64 0) (.int .i64 0) ∧ Below w.heap.size w wx)
 case first =>
  refine wp_region_held_drew (S := (fun w' => w'.cell? ⟨w.heap.size, 1, none⟩ = some (.int .i64 x1) ∧ w'.cell? ⟨w.heap.size, 2, none⟩ = some (.int .i64 x2) ∧ w'.cell? ⟨w.heap.size, 3, none⟩ = some (.int .i64 x3) ∧ w'.cell? ⟨w.heap.size + 1, 0, none⟩ = some (.int .i64 n) ∧ w'.cell? ⟨w.heap.size + 1, 1, none⟩ = some (.int .i64 d))) (by kernel_rfl) ?_ (fun hHeld => ?_)
  ·first | exact ⟨a2, a3, a4, q1, q2⟩ | (simp (maxDischargeDepth := 6) [go_sem, *]; done)
  clear a0 a1 a2 a3 a4 a5 a6 a7 a8 a9 b1 q0 q1 q2 q3 q4 r0; (try clear n0)
  replace P := P.drew
  replace Q := Q.drew
  replace R := R.drew
  replace B := Below.drew B
  generalize v.drew = v at *
  obtain ⟨a0, a1, a2, a3, a4, a5, a6, a7, a8, a9, b1⟩ := id P; obtain ⟨q0, q1, q2, q3, q4⟩ := id Q; have r0 : _ ∧ _ := R; (try (have n0 : _ ∧ _ := N))
  refine zT4 0 ?_
  refine zT2 5 ?_
  refine wpAnyH_ready (rs := [4, 11]) (by kernel_rfl) (by simp) ?_
  refine (zCc (fun K hK => ?_) (zR fun K hK => ?_))
  ·go_simp
   refine (du _ _ _ _).mono ?_; rintro e v ⟨rfl, hb⟩; clear a0 a1 a2 a3 a4 a5 a6 a7 a8 a9 b1 q0 q1 q2 q3 q4 r0; (try clear n0); (replace P := P.below hb); (replace Q := Q.below hb); (replace R := R.below hb); (try (replace N := N.below hb)); (replace B := B.trans (hb.mono B.size)); clear hb; obtain ⟨a0, a1, a2, a3, a4, a5, a6, a7, a8, a9, b1⟩ := id P; obtain ⟨q0, q1, q2, q3, q4⟩ := id Q; have r0 : _ ∧ _ := R; (try (have n0 : _ ∧ _ := N))
   (try go_wp2_with fail)
   refine hK.out _ _ ?_ (fun hHeld => ?_)
   ·first | exact ⟨a2, a3, a4, q1, q2⟩ | (simp (maxDischargeDepth := 6) [go_sem, *]; done)
   clear hK K
   (try simp only [zA])
   refine wpAnyH_ready (rs := [7, 11]) (by kernel_rfl) (by simp) ?_
   refine (zCc (fun K hK => ?_) (zR fun K hK => ?_))
   ·go_simp
    refine (CB _).mono ?_; rintro e v ⟨rfl, hb⟩; clear a0 a1 a2 a3 a4 a5 a6 a7 a8 a9 b1 q0 q1 q2 q3 q4 r0; (try clear n0); (replace P := P.below hb); (replace Q := Q.below hb); (replace R := R.below hb); (try (replace N := N.below hb)); (replace B := B.trans (hb.mono B.size)); clear hb; obtain ⟨a0, a1, a2, a3, a4, a5, a6, a7, a8, a9, b1⟩ := id P; obtain ⟨q0, q1, q2, q3, q4⟩ := id Q; have r0 : _ ∧ _ := R; (try (have n0 : _ ∧ _ := N))
    (try go_wp2_with fail)
    refine hK.out _ _ ?_ (fun hHeld => ?_)
    ·first | exact ⟨a2, a3, a4, q1, q2⟩ | (simp (maxDischargeDepth := 6) [go_sem, *]; done)
    clear hK K
    (try simp only [zA])
    refine zT2 8 ?_
    refine zTk 10 ?_
    refine zQ 11 fun K hK => ?_
    go_simp
    (have N := Bx2.new v (.int .i64 0) (.int .i64 0) 47); (have hj : w.heap.size + 2 < v.heap.size := r0.1); clear a0 a1 a2 a3 a4 a5 a6 a7 a8 a9 b1 q0 q1 q2 q3 q4 r0; (try clear n0); (replace P := P.alloc (.cells #[.int .i64 0, .int .i64 0] 47)); (replace Q := Q.alloc (.cells #[.int .i64 0, .int .i64 0] 47)); (replace R := R.alloc (.cells #[.int .i64 0, .int .i64 0] 47)); (replace B := B.alloc B.size (.cells #[.int .i64 0, .int .i64 0] 47)); (generalize v.alloc (.cells #[.int .i64 0, .int .i64 0] 47) = v2 at *); obtain ⟨a0, a1, a2, a3, a4, a5, a6, a7, a8, a9, b1⟩ := id P; obtain ⟨q0, q1, q2, q3, q4⟩ := id Q; have r0 : _ ∧ _ := R; (try (have n0 : _ ∧ _ := N))
    refine hK.out _ _ ?_ (fun hHeld => ?_)
    ·first | exact ⟨a2, a3, a4, q1, q2⟩ | (simp (maxDischargeDepth := 6) [go_sem, *]; done)
    clear hK K
    (try simp only [zA])
    refine zQ 12 fun K hK => ?_
    go_simp
    refine hK.out _ _ ?_ (fun hHeld => ?_)
    ·first | exact ⟨a2, a3, a4, q1, q2⟩ | (simp (maxDischargeDepth := 6) [go_sem, *]; done)
    clear hK K
    (try simp only [zA])
    refine zTk 13 ?_
    refine wpAnyH_done (by kernel_rfl) ?_ _
    go_wp2_with fail
    go_meet
    case rel => exact ⟨_, rfl, rfl, N.two _ _, hj, R.but (bS _ _ _ _) (by omega), B.trans ((bS _ _ _ _).below (by omega) B.size)⟩
   ·go_simp
    (have N := Bx2.new v (.int .i64 0) (.int .i64 0) 47); (have hj : w.heap.size + 2 < v.heap.size := r0.1); clear a0 a1 a2 a3 a4 a5 a6 a7 a8 a9 b1 q0 q1 q2 q3 q4 r0; (try clear n0); (replace P := P.alloc (.cells #[.int .i64 0, .int .i64 0] 47)); (replace Q := Q.alloc (.cells #[.int .i64 0, .int .i64 0] 47)); (replace R := R.alloc (.cells #[.int .i64 0, .int .i64 0] 47)); (replace B := B.alloc B.size (.cells #[.int .i64 0, .int .i64 0] 47)); (generalize v.alloc (.cells #[.int .i64 0, .int .i64 0] 47) = v2 at *); obtain ⟨a0, a1, a2, a3, a4, a5, a6, a7, a8, a9, b1⟩ := id P; obtain ⟨q0, q1, q2, q3, q4⟩ := id Q; have r0 : _ ∧ _ := R; (try (have n0 : _ ∧ _ := N))
    refine hK.out _ _ ?_ (fun hHeld => ?_)
    ·first | exact ⟨a2, a3, a4, q1, q2⟩ | (simp (maxDischargeDepth := 6) [go_sem, *]; done)
    clear hK K
    (try simp only [zA])
    refine zQ 7 fun K hK => ?_
    go_simp
    refine (CB _).mono ?_; rintro e v ⟨rfl, hb⟩; clear a0 a1 a2 a3 a4 a5 a6 a7 a8 a9 b1 q0 q1 q2 q3 q4 r0; (try clear n0); (replace P := P.below hb); (replace Q := Q.below hb); (replace R := R.below hb); (try (replace N := N.below hb)); (replace B := B.trans (hb.mono B.size)); clear hb; obtain ⟨a0, a1, a2, a3, a4, a5, a6, a7, a8, a9, b1⟩ := id P; obtain ⟨q0, q1, q2, q3, q4⟩ := id Q; have r0 : _ ∧ _ := R; (try (have n0 : _ ∧ _ := N))
    (try go_wp2_with fail)
    refine hK.out _ _ ?_ (fun hHeld => ?_)
    ·first | exact ⟨a2, a3, a4, q1, q2⟩ | (simp (maxDischargeDepth := 6) [go_sem, *]; done)
    clear hK K
    (try simp only [zA])
    refine zT2 8 ?_
    refine zTk 10 ?_
    refine zQ 12 fun K hK => ?_
    go_simp
    refine hK.out _ _ ?_ (fun hHeld => ?_)
    ·first | exact ⟨a2, a3, a4, q1, q2⟩ | (simp (maxDischargeDepth := 6) [go_sem, *]; done)
    clear hK K
    (try simp only [zA])
    refine zTk 13 ?_
    refine wpAnyH_done (by kernel_rfl) ?_ _
    go_wp2_with fail
    go_meet
    case rel => exact ⟨_, rfl, rfl, N.two _ _, hj, R.but (bS _ _ _ _) (by omega), B.trans ((bS _ _ _ _).below (by omega) B.size)⟩
  ·go_simp
   (have N := Bx2.new v (.int .i64 0) (.int .i64 0) 47); (have hj : w.heap.size + 2 < v.heap.size := r0.1); clear a0 a1 a2 a3 a4 a5 a6 a7 a8 a9 b1 q0 q1 q2 q3 q4 r0; (try clear n0); (replace P := P.alloc (.cells #[.int .i64 0, .int .i64 0] 47)); (replace Q := Q.alloc (.cells #[.int .i64 0, .int .i64 0] 47)); (replace R := R.alloc (.cells #[.int .i64 0, .int .i64 0] 47)); (replace B := B.alloc B.size (.cells #[.int .i64 0, .int .i64 0] 47)); (generalize v.alloc (.cells #[.int .i64 0, .int .i64 0] 47) = v2 at *); obtain ⟨a0, a1, a2, a3, a4, a5, a6, a7, a8, a9, b1⟩ := id P; obtain ⟨q0, q1, q2, q3, q4⟩ := id Q; have r0 : _ ∧ _ := R; (try (have n0 : _ ∧ _ := N))
   refine hK.out _ _ ?_ (fun hHeld => ?_)
   ·first | exact ⟨a2, a3, a4, q1, q2⟩ | (simp (maxDischargeDepth := 6) [go_sem, *]; done)
   clear hK K
   (try simp only [zA])
   refine zQ 4 fun K hK => ?_
   go_simp
   refine (du _ _ _ _).mono ?_; rintro e v ⟨rfl, hb⟩; clear a0 a1 a2 a3 a4 a5 a6 a7 a8 a9 b1 q0 q1 q2 q3 q4 r0; (try clear n0); (replace P := P.below hb); (replace Q := Q.below hb); (replace R := R.below hb); (try (replace N := N.below hb)); (replace B := B.trans (hb.mono B.size)); clear hb; obtain ⟨a0, a1, a2, a3, a4, a5, a6, a7, a8, a9, b1⟩ := id P; obtain ⟨q0, q1, q2, q3, q4⟩ := id Q; have r0 : _ ∧ _ := R; (try (have n0 : _ ∧ _ := N))
   (try go_wp2_with fail)
   refine hK.out _ _ ?_ (fun hHeld => ?_)
   ·first | exact ⟨a2, a3, a4, q1, q2⟩ | (simp (maxDischargeDepth := 6) [go_sem, *]; done)
   clear hK K
   (try simp only [zA])
   refine zQ 7 fun K hK => ?_
   go_simp
   refine (CB _).mono ?_; rintro e v ⟨rfl, hb⟩; clear a0 a1 a2 a3 a4 a5 a6 a7 a8 a9 b1 q0 q1 q2 q3 q4 r0; (try clear n0); (replace P := P.below hb); (replace Q := Q.below hb); (replace R := R.below hb); (try (replace N := N.below hb)); (replace B := B.trans (hb.mono B.size)); clear hb; obtain ⟨a0, a1, a2, a3, a4, a5, a6, a7, a8, a9, b1⟩ := id P; obtain ⟨q0, q1, q2, q3, q4⟩ := id Q; have r0 : _ ∧ _ := R; (try (have n0 : _ ∧ _ := N))
   (try go_wp2_with fail)
   refine hK.out _ _ ?_ (fun hHeld => ?_)
   ·first | exact ⟨a2, a3, a4, q1, q2⟩ | (simp (maxDischargeDepth := 6) [go_sem, *]; done)
   clear hK K
   (try simp only [zA])
   refine zT2 8 ?_
   refine zTk 10 ?_
   refine zQ 12 fun K hK => ?_
   go_simp
   refine hK.out _ _ ?_ (fun hHeld => ?_)
   ·first | exact ⟨a2, a3, a4, q1, q2⟩ | (simp (maxDischargeDepth := 6) [go_sem, *]; done)
   clear hK K
   (try simp only [zA])
   refine zTk 13 ?_
   refine wpAnyH_done (by kernel_rfl) ?_ _
   go_wp2_with fail
   go_meet
   case rel => exact ⟨_, rfl, rfl, N.two _ _, hj, R.but (bS _ _ _ _) (by omega), B.trans ((bS _ _ _ _).below (by omega) B.size)⟩
 case rest =>
  obtain ⟨j, rfl, rfl, N, hj, R', B'⟩ := hcut
  clear P Q R B a0 a1 a2 a3 a4 a5 a6 a7 a8 a9 b1 q0 q1 q2 q3 q4 r0
  have r0 : _ ∧ _ := R'
  have n0 : _ ∧ _ := N
  go_wp2_with fail
  exact bodyPost_ret (v := (.tuple #[.agg #[.int .i64 U, .int .i64 D], .bool (C == 0)])) (by simp (maxDischargeDepth := 6) [results, Tryz.results145, go_sem, *]) rfl ⟨rfl, B'.trans ((bS _ _ _ _).below (by omega) B'.size)⟩
theorem co (a : Option Addr) (m c : Nat) (M : Nat → PT) (n d x y : Int) (w : World) (hm : m ≤ maxLen) (hs : az w a (m * 5) (am M)) :
 Calls Tryz.prog 62 #[.slice a m c, .agg #[.int .i64 n, .int .i64 d], .int .i64 x, .int .i64 y] w fun e w' => ∃ v0 v1, e = .returned (.tuple #[v0, v1]) ∧ w'.ownsRow w.heap.size 47 2 v0 ((caL M m n d x y).map cV).length (cF ((caL M m n d x y).map cV)) ∧ w'.ownsRow w.heap.size 3 1 v1 ((caL M m n d x y).map cI).length (bx ((caL M m n d x y).map cI)) ∧ Below w.heap.size w w' := by
 have HS : Hid (az w a (m * 5) (am M)) := hs
 have HPL : Hid (∀ k, k < (frL M m x y).length → ∃ P : Nat, gI (frL M m x y) k = (P : Int) ∧ P < m) := fun k hk => eo hk
 have hFl := cA M m x y
 have HCL : Hid (caL M m n d x y = caK M n d x (frL M m x y) (frL M m x y).length) := rfl
 have C1 := fun (v : World) (hb : Below w.heap.size w v) => dS a m c M x y v hm (HS.out.below hb)
 have Q := Bx2.new w (.int .i64 n) (.int .i64 d) 61
 have B := Below.nw w (.cells #[.int .i64 n, .int .i64 d] 61)
 have hmm : m ≤ 9223372036854775807 := hm
 clear hs
 rw [HCL.out]
 generalize frL M m x y = Fr at *
 clear HCL
 go_enter Tryz.func62, Tryz.ntmps62
 go_upto_region 1 with fail
 have hw0 : (w.alloc (.cells #[.int .i64 n, .int .i64 d] 61)).heap.size = w.heap.size + 1 := by simp
 generalize w.alloc (.cells #[.int .i64 n, .int .i64 d] 61) = w0 at *
 have A1 := Below.nw w0 (.cells #[] 47)
 have O1 := oU w0
 have A2 := Below.nw (w0.alloc (.cells #[] 47)) (.cells #[] 3)
 have O2 := kV (w0.alloc (.cells #[] 47))
 replace O1 := aG O1 A2
 replace Q := (Q.below A1).below A2
 replace B := (B.trans (A1.mono B.size)).trans (A2.mono (B.trans (A1.mono B.size)).size)
 simp only [World.size_alloc] at O2
 rw [hw0] at O1 O2
 go_upto_region 2 with fail
 clear A1 A2
 have hw1 : w.heap.size + 3 ≤ ((w0.alloc (.cells #[] 47)).alloc (.cells #[] 3)).heap.size := by simp [hw0]
 generalize (w0.alloc (.cells #[] 47)).alloc (.cells #[] 3) = w1 at *
 go_wp2_with fail
 refine (C1 _ B).mono ?_
 rintro e w2 ⟨vf, rfl, OF, hb⟩
 have ST : b9 w n d vf Fr [] [] (.slice (some ⟨w.heap.size + 1, 0, none⟩) 0 0) (.slice (some ⟨w.heap.size + 1 + 1, 0, none⟩) 0 0) w2 := ⟨Q.below hb, bp OF (by omega), aG O1 hb, aG (bp O2 (by omega)) hb, fun g hg hg' => by have := (World.ownsRow.lt OF g hg).1; simp [Value.ownBlock] at hg'; omega, fun g hg hg' => by have := (World.ownsRow.lt OF g hg).1; simp [Value.ownBlock] at hg'; omega, fun g hg hg' => by simp [Value.ownBlock] at hg hg'; omega, B.trans (hb.mono B.size)⟩
 clear C1 Q O1 O2 OF hb B hw0 hw1
 obtain ⟨af, cf, rfl, _, _, _⟩ := aT ST.2.1
 go_wp2_with fail
 go_loopw [10, 11, 13] (fun vo vi i wr => ∃ k : Nat, k ≤ Fr.length ∧ i = .int .i64 k ∧ b9 w n d (.slice af Fr.length cf) Fr ((caK M n d x Fr k).map cV) ((caK M n d x Fr k).map cI) vo vi wr) (fun _ _ i _ => Fr.length - (intOf i).toNat)
 case atStart => exact ⟨0, Nat.zero_le _, rfl, ST⟩
 case round =>
  clear ST
  obtain ⟨k, hk, rfl, ST⟩ := hrel
  by_cases hlt : k < Fr.length
  ·obtain ⟨gb, gc, egf, hgl, hgc⟩ := ST.place hlt
   simp at egf
   obtain ⟨rfl, rfl⟩ := egf
   obtain ⟨P, hP, hPm⟩ := HPL.out k hlt
   rw [hP] at hgc
   obtain ⟨b, off, rfl, hf⟩ := HS.out.some (by omega)
   obtain ⟨x0, x1, x2, x3, x4, hM⟩ := bu M P
   have HCB : Hid (∀ wq, Below w.heap.size w wq → Cs wq b off (m * 5) (am M)) := fun wq hb => hf.below hb hf.1
   have hbw : b < w.heap.size := hf.1
   have hli : (k : Int) < (Fr.length : Int) := by omega
   have hPi : (P : Int) < (m : Int) := by omega
   have hKl := fj M n d x Fr k
   have HY : Hid (crC true x1 x2 x3 n d x = 0 → caK M n d x Fr (k + 1) = caK M n d x Fr k ++ [(x0, crL true x1 x2 x3 n d x, crH true x1 x2 x3 n d x)]) := fun h => by
    have q := nI (M := M) (n := n) (d := d) (x := x) (Fr := Fr) (k := k) (by rw [hP, Int.toNat_natCast, hM]; exact h)
    rw [hP, Int.toNat_natCast, hM] at q
    exact q
   have HNn : Hid (crC true x1 x2 x3 n d x ≠ 0 → caK M n d x Fr (k + 1) = caK M n d x Fr k) := fun h => pL (by rw [hP, Int.toNat_natCast, hM]; exact h)
   have HM : Hid (M P = (x0, x1, x2, x3, x4)) := hM
   clear hM hP hf
   have CC := fun v => bi true x1 x2 x3 n d x v
   generalize caK M n d x Fr k = K at *
   generalize crL true x1 x2 x3 n d x = U at *
   generalize crH true x1 x2 x3 n d x = D at *
   generalize crC true x1 x2 x3 n d x = C at *
   obtain ⟨c0, c1, c2, c3, c4⟩ := (HCB.out wr ST.2.2.2.2.2.2.2).elPeer hPm HM.out
   have hbr : b < wr.heap.size := Nat.lt_of_lt_of_le hbw ST.2.2.2.2.2.2.2.size
   have hlk : (K.map cV).length ≤ 9 := by rw [List.length_map]; omega
   have hlk2 : (K.map cI).length ≤ 9 := by rw [List.length_map]; omega
   have A1 := Below.nw wr (.cells #[.int .i64 x0, .int .i64 x1, .int .i64 x2, .int .i64 x3, .bool x4] 154)
   have KB := Bx5.new wr (.int .i64 x0) (.int .i64 x1) (.int .i64 x2) (.int .i64 x3) (.bool x4) 154
   have HLT : Hid (∀ g, u10.ownBlock = some g → g < wr.heap.size) := ST.lts.2.2.1
   go_upto_region 7 with fail
   clear c0 c1 c2 c3 c4 hgc
   replace ST := ST.below A1
   clear hbr hgl A1
   generalize hbk : wr.heap.size = bk at *
   generalize wr.alloc (.cells #[.int .i64 x0, .int .i64 x1, .int .i64 x2, .int .i64 x3, .bool x4] 154) = w3 at *
   have k9 : _ ∧ _ := KB
   obtain ⟨q0, q1, q2, q3, q4⟩ := ST.1
   go_wp2_with fail
   refine (CC _).mono ?_
   rintro e w4 ⟨rfl, hb⟩
   clear k9 q0 q1 q2 q3 q4 CC
   replace ST := ST.below hb
   replace KB := KB.below hb
   clear hb
   have A2 := Below.nw w4 (.cells #[.int .i64 U, .int .i64 D] 47)
   have N := Bx2.new w4 (.int .i64 U) (.int .i64 D) 47
   go_upto_region 8 with fail
   replace ST := ST.below A2
   replace KB := KB.below A2
   clear A2
   generalize hbn : w4.heap.size = bn at *
   generalize w4.alloc (.cells #[.int .i64 U, .int .i64 D] 47) = w5 at *
   have hKBO : Hid (∀ g, u10.ownBlock = some g → g < bk) := HLT
   have n0 : _ ∧ _ := N
   have k9 : _ ∧ _ := KB
   by_cases hC : C = 0
   ·have HT : Hid (caK M n d x Fr (k + 1) = K ++ [(x0, U, D)]) := HY.out hC
    subst hC
    have hs5 := ST.lts
    have OW := ST.2.2.1
    clear HY HNn
    go_upto_region 10 with (at_builtin; refine jV rfl _ _ rfl (w.heap.size + 1) (K.map cV) _ rfl OW rfl (by omega) (by omega) ?_; intro v' w9 O9 hg9 hn9)
    have ST9 := ST.addV O9 hg9 hn9
    have KB9 := KB.kept hg9 (fun e => by have := hKBO.out _ e.symm; omega)
    clear OW O9 hg9 hn9 n0 N
    clear k9 KB
    have k9 : _ ∧ _ := KB9
    have hs9 := ST9.lts
    have OI := ST9.2.2.2.1
    go_wp2_with (at_builtin; refine cW rfl _ _ rfl (w.heap.size + 1) (K.map cI) _ rfl OI rfl (by omega) (by omega) ?_; intro v2 w10 O10 hg10 hn10)
    have ST10 : Hid (b9 w n d _ Fr (K.map cV ++ [(U, D)]) (K.map cI ++ [x0]) v' v2 w10) := ST9.addI O10 hg10 hn10
    clear OI O10 hg10 hn10 ST9 ST k9 KB9
    go_wp2_with fail
    go_roundw
    case rel => exact ⟨k + 1, by omega, by go_num, by rw [HT.out, List.map_append, List.map_append]; exact ST10.out⟩
    case measure => simp [intOf]; omega
   ·have HT : Hid (caK M n d x Fr (k + 1) = K) := HNn.out hC
    have hC' : (C == 0) = false := by simp [hC]
    clear HY HNn
    go_wp2_with fail
    go_roundw
    case rel => exact ⟨k + 1, by omega, by go_num, by rw [HT.out]; exact ST⟩
    case measure => simp [intOf]; omega
  ·have hkn : k = Fr.length := by omega
   have hli : ¬ (k : Int) < (Fr.length : Int) := by omega
   subst hkn
   obtain ⟨av, cv, rfl, _, _, _⟩ := aT ST.2.2.1
   obtain ⟨ai, ci, rfl, _, _, _⟩ := aT ST.2.2.2.1
   go_wp2_with fail
   exact bodyPost_ret (v := (.tuple #[.slice av ((caK M n d x Fr Fr.length).map cV).length cv, .slice ai ((caK M n d x Fr Fr.length).map cI).length ci])) (by simp (maxDischargeDepth := 6) [results, Tryz.results62, go_sem, *]) rfl ⟨_, _, rfl, by simpa only [List.length_map] using bp ST.2.2.1 (Nat.le_succ _), by simpa only [List.length_map] using bp ST.2.2.2.1 (Nat.le_succ _), ST.2.2.2.2.2.2.2⟩
theorem cC (a : Option Addr) (m c : Nat) (M : Nat → PT) (n d x y : Int) (w : World) (hm : m ≤ maxLen) (hs : az w a (m * 5) (am M)) :
 Calls Tryz.prog 107 #[.slice a m c, .agg #[.int .i64 n, .int .i64 d], .int .i64 x, .int .i64 y] w fun e w' => ∃ v0 v1, e = .returned (.tuple #[v0, v1]) ∧ w'.ownsRow w.heap.size 47 2 v0 ((caL M m n d x y).map cV).length (cF ((caL M m n d x y).map cV)) ∧ w'.ownsRow w.heap.size 3 1 v1 ((caL M m n d x y).map cI).length (bx ((caL M m n d x y).map cI)) ∧ ApR v0 v1 ∧ Below w.heap.size w w' := by
 have HS : Hid (az w a (m * 5) (am M)) := hs
 have HPL : Hid (∀ k, k < (frL M m x y).length → ∃ P : Nat, gI (frL M m x y) k = (P : Int) ∧ P < m) := fun k hk => eo hk
 have hFl := cA M m x y
 have HCL : Hid (caL M m n d x y = caK M n d x (frL M m x y) (frL M m x y).length) := rfl
 have C1 := fun (v : World) (hb : Below w.heap.size w v) => eu a m c M x y v hm (HS.out.below hb)
 have Q := Bx2.new w (.int .i64 n) (.int .i64 d) 61
 have B := Below.nw w (.cells #[.int .i64 n, .int .i64 d] 61)
 have hmm : m ≤ 9223372036854775807 := hm
 clear hs
 rw [HCL.out]
 generalize frL M m x y = Fr at *
 clear HCL
 go_enter Tryz.func107, Tryz.ntmps107
 go_upto_region 1 with fail
 have hw0 : (w.alloc (.cells #[.int .i64 n, .int .i64 d] 61)).heap.size = w.heap.size + 1 := by simp
 generalize w.alloc (.cells #[.int .i64 n, .int .i64 d] 61) = w0 at *
 go_wp2_with fail
 refine (C1 _ B).mono ?_
 rintro e w2 ⟨vf, rfl, OF, hb⟩
 have ST : b9 w n d vf Fr [] [] (.slice none 0 0) (.slice none 0 0) w2 := ⟨Q.below hb, bp OF (by omega), qt _ _, d8 _ _, fun g hg hg' => by simp [Value.ownBlock] at hg', fun g hg hg' => by simp [Value.ownBlock] at hg', fun g hg hg' => by simp [Value.ownBlock] at hg, B.trans (hb.mono B.size)⟩
 clear C1 Q OF hb B hw0
 obtain ⟨af, cf, rfl, _, _, _⟩ := aT ST.2.1
 go_wp2_with fail
 go_loopw [10, 11, 21] (fun vo vi i wr => ∃ k : Nat, k ≤ Fr.length ∧ i = .int .i64 k ∧ b9 w n d (.slice af Fr.length cf) Fr ((caK M n d x Fr k).map cV) ((caK M n d x Fr k).map cI) vo vi wr) (fun _ _ i _ => Fr.length - (intOf i).toNat)
 case atStart => exact ⟨0, Nat.zero_le _, rfl, ST⟩
 case round =>
  clear ST
  obtain ⟨k, hk, rfl, ST⟩ := hrel
  by_cases hlt : k < Fr.length
  ·obtain ⟨gb, gc, egf, hgl, hgc⟩ := ST.place hlt
   simp at egf
   obtain ⟨rfl, rfl⟩ := egf
   obtain ⟨P, hP, hPm⟩ := HPL.out k hlt
   rw [hP] at hgc
   obtain ⟨b, off, rfl, hf⟩ := HS.out.some (by omega)
   obtain ⟨x0, x1, x2, x3, x4, hM⟩ := bu M P
   have HCB : Hid (∀ wq, Below w.heap.size w wq → Cs wq b off (m * 5) (am M)) := fun wq hb => hf.below hb hf.1
   have hbw : b < w.heap.size := hf.1
   have hli : (k : Int) < (Fr.length : Int) := by omega
   have hPi : (P : Int) < (m : Int) := by omega
   have hKl := fj M n d x Fr k
   have HY : Hid (crC true x1 x2 x3 n d x = 0 → caK M n d x Fr (k + 1) = caK M n d x Fr k ++ [(x0, crL true x1 x2 x3 n d x, crH true x1 x2 x3 n d x)]) := fun h => by
    have q := nI (M := M) (n := n) (d := d) (x := x) (Fr := Fr) (k := k) (by rw [hP, Int.toNat_natCast, hM]; exact h)
    rw [hP, Int.toNat_natCast, hM] at q
    exact q
   have HNn : Hid (crC true x1 x2 x3 n d x ≠ 0 → caK M n d x Fr (k + 1) = caK M n d x Fr k) := fun h => pL (by rw [hP, Int.toNat_natCast, hM]; exact h)
   have HM : Hid (M P = (x0, x1, x2, x3, x4)) := hM
   clear hM hP hf
   have CC := fun v => j0 x0 x1 x2 x3 x4 n d x v
   generalize caK M n d x Fr k = K at *
   generalize crL true x1 x2 x3 n d x = U at *
   generalize crH true x1 x2 x3 n d x = D at *
   generalize crC true x1 x2 x3 n d x = C at *
   obtain ⟨c0, c1, c2, c3, c4⟩ := (HCB.out wr ST.2.2.2.2.2.2.2).elPeer hPm HM.out
   have hbr : b < wr.heap.size := Nat.lt_of_lt_of_le hbw ST.2.2.2.2.2.2.2.size
   have hlk : (K.map cV).length ≤ 9 := by rw [List.length_map]; omega
   have hlk2 : (K.map cI).length ≤ 9 := by rw [List.length_map]; omega
   go_upto_region 6 with fail
   clear hgc hgl
   obtain ⟨q0, q1, q2, q3, q4⟩ := ST.1
   go_cut [14, 15] (fun s8 s9 wx => ∃ j : Nat, s8 = .pointer (some ⟨j, 0, none⟩) ∧ s9 = .bool (C == 0) ∧ Bx2 wx j (.int .i64 U) (.int .i64 D) ∧ b9 w n d (.slice (some ⟨gb, 0, none⟩) Fr.length cf) Fr (K.map cV) (K.map cI) u10 u11 wx ∧ b < wx.heap.size)
   case first =>
    refine wp_region_held_drew (S := (fun w' => w'.cell? ⟨b, off + P * 5, none⟩ = some (.int .i64 x0) ∧ w'.cell? ⟨b, off + P * 5 + 1, none⟩ = some (.int .i64 x1) ∧ w'.cell? ⟨b, off + P * 5 + 2, none⟩ = some (.int .i64 x2) ∧ w'.cell? ⟨b, off + P * 5 + 3, none⟩ = some (.int .i64 x3) ∧ w'.cell? ⟨b, off + P * 5 + 4, none⟩ = some (.bool x4) ∧ w'.cell? ⟨w.heap.size, 0, none⟩ = some (.int .i64 n) ∧ w'.cell? ⟨w.heap.size, 1, none⟩ = some (.int .i64 d))) (by kernel_rfl) ?_ (fun hHeld => ?_)
    ·first | exact ⟨c0, c1, c2, c3, c4, q1, q2⟩ | (simp (maxDischargeDepth := 6) [go_sem, *]; done)
    clear q0 q1 q2 q3 q4 c0 c1 c2 c3 c4
    replace ST := ST.drew
    replace hbr : b < wr.drew.heap.size := hbr
    generalize wr.drew = v at *
    obtain ⟨q0, q1, q2, q3, q4⟩ := ST.1; obtain ⟨c0, c1, c2, c3, c4⟩ := (HCB.out _ ST.2.2.2.2.2.2.2).elPeer hPm HM.out; (try (have n0 : _ ∧ _ := N))
    refine zT4 0 ?_
    refine zT2 4 ?_
    refine wpAnyH_ready (rs := [6, 10]) (by kernel_rfl) (by simp) ?_
    refine (zCc (fun K hK => ?_) (zR fun K hK => ?_))
    ·go_simp
     refine (CC _).mono ?_; rintro e v ⟨rfl, hb⟩; clear q0 q1 q2 q3 q4 c0 c1 c2 c3 c4; (try clear n0); (replace ST := ST.below hb); (try (replace N := N.below hb)); (replace hbr := Nat.lt_of_lt_of_le hbr hb.size); clear hb; obtain ⟨q0, q1, q2, q3, q4⟩ := ST.1; obtain ⟨c0, c1, c2, c3, c4⟩ := (HCB.out _ ST.2.2.2.2.2.2.2).elPeer hPm HM.out; (try (have n0 : _ ∧ _ := N))
     (try go_wp2_with fail)
     refine hK.out _ _ ?_ (fun hHeld => ?_)
     ·first | exact ⟨c0, c1, c2, c3, c4, q1, q2⟩ | (simp (maxDischargeDepth := 6) [go_sem, *]; done)
     clear hK K
     (try simp only [zA])
     refine zT2 7 ?_
     refine zTk 9 ?_
     refine zQ 10 fun K hK => ?_
     go_simp
     (have N := Bx2.new v (.int .i64 0) (.int .i64 0) 47); (have hj := ST.lts); clear q0 q1 q2 q3 q4 c0 c1 c2 c3 c4; (try clear n0); (replace ST := ST.below (Below.nw v (.cells #[.int .i64 0, .int .i64 0] 47))); (replace hbr : b < (v.alloc (.cells #[.int .i64 0, .int .i64 0] 47)).heap.size := Nat.lt_of_lt_of_le hbr (by simp)); (generalize v.heap.size = jn at *); (generalize v.alloc (.cells #[.int .i64 0, .int .i64 0] 47) = v2 at *); obtain ⟨q0, q1, q2, q3, q4⟩ := ST.1; obtain ⟨c0, c1, c2, c3, c4⟩ := (HCB.out _ ST.2.2.2.2.2.2.2).elPeer hPm HM.out; (try (have n0 : _ ∧ _ := N))
     refine hK.out _ _ ?_ (fun hHeld => ?_)
     ·first | exact ⟨c0, c1, c2, c3, c4, q1, q2⟩ | (simp (maxDischargeDepth := 6) [go_sem, *]; done)
     clear hK K
     (try simp only [zA])
     refine zQ 11 fun K hK => ?_
     go_simp
     refine hK.out _ _ ?_ (fun hHeld => ?_)
     ·first | exact ⟨c0, c1, c2, c3, c4, q1, q2⟩ | (simp (maxDischargeDepth := 6) [go_sem, *]; done)
     clear hK K
     (try simp only [zA])
     refine zTk 12 ?_
     refine wpAnyH_done (by kernel_rfl) ?_ _
     go_wp2_with fail
     go_meet
     case rel => exact ⟨_, rfl, rfl, N.two _ _, ST.but (bS _ _ _ _) hj, by simpa using hbr⟩
    ·go_simp
     (have N := Bx2.new v (.int .i64 0) (.int .i64 0) 47); (have hj := ST.lts); clear q0 q1 q2 q3 q4 c0 c1 c2 c3 c4; (try clear n0); (replace ST := ST.below (Below.nw v (.cells #[.int .i64 0, .int .i64 0] 47))); (replace hbr : b < (v.alloc (.cells #[.int .i64 0, .int .i64 0] 47)).heap.size := Nat.lt_of_lt_of_le hbr (by simp)); (generalize v.heap.size = jn at *); (generalize v.alloc (.cells #[.int .i64 0, .int .i64 0] 47) = v2 at *); obtain ⟨q0, q1, q2, q3, q4⟩ := ST.1; obtain ⟨c0, c1, c2, c3, c4⟩ := (HCB.out _ ST.2.2.2.2.2.2.2).elPeer hPm HM.out; (try (have n0 : _ ∧ _ := N))
     refine hK.out _ _ ?_ (fun hHeld => ?_)
     ·first | exact ⟨c0, c1, c2, c3, c4, q1, q2⟩ | (simp (maxDischargeDepth := 6) [go_sem, *]; done)
     clear hK K
     (try simp only [zA])
     refine zQ 6 fun K hK => ?_
     go_simp
     refine (CC _).mono ?_; rintro e v ⟨rfl, hb⟩; clear q0 q1 q2 q3 q4 c0 c1 c2 c3 c4; (try clear n0); (replace ST := ST.below hb); (try (replace N := N.below hb)); (replace hbr := Nat.lt_of_lt_of_le hbr hb.size); clear hb; obtain ⟨q0, q1, q2, q3, q4⟩ := ST.1; obtain ⟨c0, c1, c2, c3, c4⟩ := (HCB.out _ ST.2.2.2.2.2.2.2).elPeer hPm HM.out; (try (have n0 : _ ∧ _ := N))
     (try go_wp2_with fail)
     refine hK.out _ _ ?_ (fun hHeld => ?_)
     ·first | exact ⟨c0, c1, c2, c3, c4, q1, q2⟩ | (simp (maxDischargeDepth := 6) [go_sem, *]; done)
     clear hK K
     (try simp only [zA])
     refine zT2 7 ?_
     refine zTk 9 ?_
     refine zQ 11 fun K hK => ?_
     go_simp
     refine hK.out _ _ ?_ (fun hHeld => ?_)
     ·first | exact ⟨c0, c1, c2, c3, c4, q1, q2⟩ | (simp (maxDischargeDepth := 6) [go_sem, *]; done)
     clear hK K
     (try simp only [zA])
     refine zTk 12 ?_
     refine wpAnyH_done (by kernel_rfl) ?_ _
     go_wp2_with fail
     go_meet
     case rel => exact ⟨_, rfl, rfl, N.two _ _, ST.but (bS _ _ _ _) hj, by simpa using hbr⟩
   case rest =>
    obtain ⟨bn, rfl, rfl, N, ST', hbr'⟩ := hcut
    clear ST hbr q0 q1 q2 q3 q4 c0 c1 c2 c3 c4
    have ST := ST'
    have hbr5 := hbr'
    clear ST' hbr' CC
    generalize wc = w5 at *
    have n0 : _ ∧ _ := N
    by_cases hC : C = 0
    ·have HT : Hid (caK M n d x Fr (k + 1) = K ++ [(x0, U, D)]) := HY.out hC
     subst hC
     have hs5 := ST.lts
     have OW := ST.2.2.1
     clear HY HNn
     go_upto_region 9 with (at_builtin; refine jV rfl _ _ rfl (w.heap.size + 1) (K.map cV) _ rfl OW rfl (by omega) (by omega) ?_; intro v' w9 O9 hg9 hn9)
     have ST9 := ST.addV O9 hg9 hn9
     clear OW O9 hg9 hn9 n0 N
     obtain ⟨c0, c1, c2, c3, c4⟩ := (HCB.out w9 ST9.2.2.2.2.2.2.2).elPeer hPm HM.out
     have hbr9 : b < w9.heap.size := Nat.lt_of_lt_of_le hbw ST9.2.2.2.2.2.2.2.size
     have hs9 := ST9.lts
     have OI := ST9.2.2.2.1
     go_wp2_with (at_builtin; refine cW rfl _ _ rfl (w.heap.size + 1) (K.map cI) _ rfl OI rfl (by omega) (by omega) ?_; intro v2 w10 O10 hg10 hn10)
     have ST10 : Hid (b9 w n d _ Fr (K.map cV ++ [(U, D)]) (K.map cI ++ [x0]) v' v2 w10) := ST9.addI O10 hg10 hn10
     clear OI O10 hg10 hn10 ST9 ST c0 c1 c2 c3 c4
     go_wp2_with fail
     go_roundw
     case rel => exact ⟨k + 1, by omega, by go_num, by rw [HT.out, List.map_append, List.map_append]; exact ST10.out⟩
     case measure => simp [intOf]; omega
    ·have HT : Hid (caK M n d x Fr (k + 1) = K) := HNn.out hC
     have hC' : (C == 0) = false := by simp [hC]
     clear HY HNn
     rw [hC']
     go_wp2_with fail
     go_roundw
     case rel => exact ⟨k + 1, by omega, by go_num, by rw [HT.out]; exact ST⟩
     case measure => simp [intOf]; omega
  ·have hkn : k = Fr.length := by omega
   have hli : ¬ (k : Int) < (Fr.length : Int) := by omega
   subst hkn
   obtain ⟨av, cv, rfl, _, _, _⟩ := aT ST.2.2.1
   obtain ⟨ai, ci, rfl, _, _, _⟩ := aT ST.2.2.2.1
   go_wp2_with fail
   exact bodyPost_ret (v := (.tuple #[.slice av ((caK M n d x Fr Fr.length).map cV).length cv, .slice ai ((caK M n d x Fr Fr.length).map cI).length ci])) (by simp (maxDischargeDepth := 6) [results, Tryz.results107, go_sem, *]) rfl ⟨_, _, rfl, by simpa only [List.length_map] using bp ST.2.2.1 (Nat.le_succ _), by simpa only [List.length_map] using bp ST.2.2.2.1 (Nat.le_succ _), ST.2.2.2.2.2.2.1, ST.2.2.2.2.2.2.2⟩
end Go.Proofs.YtikbjljkakabdaaGreat
