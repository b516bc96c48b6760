/-
  StateBegin: the walk.
-/
import Derived.Test.YtcgokiahlldaoaaFStVo
import Derived.Deep.MidRow
import Derived.Deep.RegionHeld3
namespace Go.Proofs.Ytcgokiahlldaoaa
set_option linter.unusedSimpArgs false
set_option linter.unusedVariables false
set_option maxRecDepth 100000
set_option maxRecDepth 100000
open Go.ChangeShapes Go.WideShapes Go.ChangeAt Go.RowKit Me

set_option maxHeartbeats 16000000 in
theorem begin_walk (V : Vw) (hV : VwOk V) (w : World) : Calls Try.prog 9 #[vwV V] w fun e w' => e = .returned (.bool true) ∧ Below w.heap.size w w' := by
  have HV : Hid (∀ W, Calls Try.prog 17 #[.agg (vwC V).toArray] W fun e w' => e = .returned (.agg (vwC V).toArray) ∧ Below W.heap.size W w') := fun W => view_any V hV W
  have HB : Hid (∀ W, Calls Try.prog 13 #[] W fun e w' => e = .returned (.agg (stC begS).toArray) ∧ Below W.heap.size W w') := fun W => uBegin_any W
  have H0 : Hid (∀ W, Calls Try.prog 16 #[.agg (stC st0).toArray, .agg (vwC V).toArray] W fun e w' => e = .returned (.bool (sHolds st0 V)) ∧ Below W.heap.size W w') := fun W => uHolds_any st0 V st0_ok hV W
  have H1 : Hid (∀ W, Calls Try.prog 16 #[.agg (stC begS).toArray, .agg (vwC V).toArray] W fun e w' => e = .returned (.bool (decide (V.vs 1 = ctxV) && (decide (V.vs 10 = frmV) && sHolds st0 V))) ∧ Below W.heap.size W w') := fun W => beg_is V ▸ uHolds_any begS V begS_ok hV W
  have HW := hid wakes_any
  have ZV : ∀ w, (zeroValue 55).run Try.prog w = .ok (.agg (vwC (vw0 0)).toArray) w := (zero_of_info zv_info).1
  have BS : ∀ w, (Instr.build 36 #[]).run Try.prog w = .ok (.agg (stC st0).toArray) w := bld_s0
  have E1 := fun W => eq_v (V.vs 1) ctxV W
  have E2 := fun W => eq_v (V.vs 10) frmV W
  simp only [vB_dec] at E1 E2
  have hlV : (vwC V).length = 877 := vwC_len _ hV.2.1
  have hF := hid hV.2.1
  have hi49 : Hid ((Try.prog.info? 49).map (·.size) = some (vwC V).length) := hid (by rw [hlV]; exact yinfo49)
  have hi55 := hid (yhv V hV.2.1)
  have a := hid (RwT.new (g := w.heap.size) (n := 877) (w := w) (W := w) (cs := vwC V) 49 (Below.refl _ _) (Nat.le_refl _) hlV.symm)
  have BL2 := bld_k1 2
  have BL4 := bld_v03 4 512
  generalize sHolds st0 V = m at *
  have YN : ∀ (W : World), Below w.heap.size w W → w.heap.size ≤ W.heap.size → RwT w.heap.size w ((W.alloc (.cells (vwC (vw0 0)).toArray 55)).setCells W.heap.size 0 (vwC V)) W.heap.size 877 (vwC V) := fun W h hg => ynew_vw V hV.2.1 h hg
  have YT := ythere_vw
  generalize vw0 0 = Z0 at *
  replace BS := hid BS
  replace YN := hid YN
  replace YT := hid YT
  generalize hBG : stC begS = BG at *
  generalize hS0 : stC st0 = S0 at *
  clear hBG hS0 hlV hV
  unfold vwV
  obtain ⟨CV, hCV⟩ : ∃ CF, (vwC V).toArray = CF := ⟨_, rfl⟩
  rw [hCV] at a
  rw [hCV]
  clear hCV
  generalize decide (V.vs 1 = ctxV) = q1 at *
  generalize decide (V.vs 10 = frmV) = q2 at *
  unfold vV ctxV at E1
  unfold vV frmV at E2
  dsimp only at E1 E2
  cases q1
  · rw [Bool.false_and] at H1
    go_enter Try.func9, Try.ntmps9
    go_wp2_with (first | ((with_reducible refine at_load (d := some 6) 49 ?_); refine wpList_load_g (by rfl) 49 _ rfl w.heap.size (0) rfl (vwC V) _ a.out.i.r0 Try.underlying49 rfl hi49.out ?_))
    refine (HV.out _).mono ?_
    rintro e w1 ⟨rfl, z⟩
    have B1 := below_next (bel_alloc (Below.refl w.heap.size w)) z
    have X := hid (YN.out w1 B1 B1.size)
    have T := hid (YT.out w1)
    have hs1 := B1.size
    clear z B1
    have hrv1 : Hid (((w1.alloc (.cells (vwC Z0).toArray 55)).setCells w1.heap.size 0 (vwC V)).rangeAt w1.heap.size (1 * 4) [.int .u8 (V.vs 1).k, .int .i64 (V.vs 1).m, .int .u64 (V.vs 1).n, .int .i64 (V.vs 1).o]) := hid (range_val X.out.i.r0 1 (by decide))
    have hrv2 : Hid (((w1.alloc (.cells (vwC Z0).toArray 55)).setCells w1.heap.size 0 (vwC V)).rangeAt w1.heap.size (10 * 4) [.int .u8 (V.vs 10).k, .int .i64 (V.vs 10).m, .int .u64 (V.vs 10).n, .int .i64 (V.vs 10).o]) := hid (range_val X.out.i.r0 10 (by decide))
    have hiv : Hid (∀ k, (Try.prog.info? 41).map (·.size) = some (vC (V.vs k)).length) := hid (fun k => by rw [vC_len]; exact yinfo41)
    go_wp2_with (first | ((with_reducible refine at_store (x := .tmp 3) (y := .tmp 7) 55 ?_); refine wpList_store_vw (.tmp 3) (.tmp 7) rfl rfl w1.heap.size V hF.out rfl rfl T.out ?_) | ((with_reducible refine at_load (d := some 10) 41 ?_); refine wpList_load_g (by rfl) 41 _ rfl w1.heap.size (1 * 4) rfl ([.int .u8 (V.vs 1).k, .int .i64 (V.vs 1).m, .int .u64 (V.vs 1).n, .int .i64 (V.vs 1).o]) _ hrv1.out Try.underlying41 rfl (hiv.out 1) ?_) | ((with_reducible refine at_load (d := some 16) 41 ?_); refine wpList_load_g (by rfl) 41 _ rfl w1.heap.size (10 * 4) rfl ([.int .u8 (V.vs 10).k, .int .i64 (V.vs 10).m, .int .u64 (V.vs 10).n, .int .i64 (V.vs 10).o]) _ hrv2.out Try.underlying41 rfl (hiv.out 10) ?_) | ((with_reducible refine at_build (d := some 20) 36 ?_); refine wpList_val (.agg S0.toArray) ?a1b1 ?a2b1 ?a3b1; (case a1b1 => rfl); (case a2b1 => exact exec_build #[] (by simp [Act.eval]) (BS.out _))) | ((with_reducible refine at_load (d := some 21) 55 ?_); refine wpList_load_g (by rfl) 55 _ rfl w1.heap.size (0) rfl (vwC V) _ X.out.i.r0 Try.underlying55 rfl hi55.out ?_))
    refine (H0.out _).mono ?_
    rintro e w2 ⟨rfl, z⟩
    have X2 := hid (X.out.next z (by rw [size_setRow]; simp; omega))
    clear z X T hrv1 hrv2
    go_wp2_with fail
    have hx := X2.out.i.r0
    have hxs := X2.out.i.sz
    have keepS : ∀ W, Below w2.heap.size w2 W → W.rangeAt w1.heap.size 0 (vwC V) ∧ Below w2.heap.size w2 W := fun W hW => ⟨range_below hx hxs (Me.bcell hW).1, hW⟩
    have hu55 := Try.underlying55
    have hi5 := hi55.out
    have hB66 := Below.refl w2.heap.size w2
    refine wp_region_held_drew (S := (fun w' : World => w'.rangeAt w1.heap.size 0 (vwC V) ∧ Below w2.heap.size w2 w')) (by kernel_rfl) ?_ (fun hHeld => ?_)
    · (try dsimp only); (refine keepS _ ?_; first | (with_reducible assumption) | ((with_reducible refine Below.drew ?_); with_reducible assumption) | exact below_dr _)
    have hBk := below_dr w2
    refine take_d (i := 1) (v := _) rfl (by rfl) (by kernel_rfl) (by kernel_rfl) (by kernel_rfl) (fun _ _ _ h => h) (yieldsIf_load_mid (by rfl) _ _ rfl _ _ rfl (vwC V) _ ?hp1q1 hu55 rfl hi5) (by assumption) ?rp1q1
    case hp1q1 => (intro wS hSw; (try dsimp only at hSw); go_split_ands; assumption)
    (try simp only [Act.put, List.setIfInBounds_toArray, List.set_cons_zero, List.set_cons_succ])
    refine take_d (i := 3) (v := ?vp1q2) rfl (by rfl) (by kernel_rfl) (by kernel_rfl) (by kernel_rfl) (fun _ _ _ h => h) (Or.inl ⟨by rfl, ?hp1q2⟩) (by assumption) ?rp1q2
    case hp1q2 => (intro wS hSw; (try dsimp only at hSw); go_simp; try (with_reducible rfl))
    (try simp only [Act.put, List.setIfInBounds_toArray, List.set_cons_zero, List.set_cons_succ])
    refine wpAnyH_ready (rs := [0]) (by kernel_rfl) (by simp) ?_
    refine AllReadyH.cons rfl (fun K hK => ?_) AllReadyH.nil
    go_simp
    go_at_call 13
    refine (HB.out _).mono ?_
    rintro e wp1q3 ⟨rfl, bkp1q3⟩
    have hBn := below_next hBk bkp1q3
    clear hBk bkp1q3
    have hBk := hBn
    clear hBn
    try go_simp
    refine hK.out _ _ ?_ (fun hHeld => ?_)
    · (try dsimp only); exact keepS _ hBk
    clear hK K
    (try simp only [Act.put, List.setIfInBounds_toArray, List.set_cons_zero, List.set_cons_succ])
    refine wpAnyH_ready (rs := [2]) (by kernel_rfl) (by simp) ?_
    refine AllReadyH.cons rfl (fun K hK => ?_) AllReadyH.nil
    go_simp
    go_at_call 16
    refine (H1.out _).mono ?_
    rintro e wp1q4 ⟨rfl, bkp1q4⟩
    have hBn := below_next hBk bkp1q4
    clear hBk bkp1q4
    have hBk := hBn
    clear hBn
    try go_simp
    refine hK.out _ _ ?_ (fun hHeld => ?_)
    · (try dsimp only); exact keepS _ hBk
    clear hK K
    (try simp only [Act.put, List.setIfInBounds_toArray, List.set_cons_zero, List.set_cons_succ])
    refine take_d (i := 4) (v := ?vp1q5) rfl (by rfl) (by kernel_rfl) (by kernel_rfl) (by kernel_rfl) (fun _ _ _ h => h) (Or.inl ⟨by rfl, ?hp1q5⟩) (by assumption) ?rp1q5
    case hp1q5 => (intro wS hSw; (try dsimp only at hSw); go_simp; try (with_reducible rfl))
    (try simp only [Act.put, List.setIfInBounds_toArray, List.set_cons_zero, List.set_cons_succ])
    refine take_d (i := 5) (v := undef) rfl (by rfl) (by kernel_rfl) (by kernel_rfl) (by kernel_rfl) (fun _ _ _ h => h) (Or.inr ⟨by rfl, rfl⟩) (by assumption) ?rp1q6
    (try simp only [Act.put, List.setIfInBounds_toArray, List.set_cons_zero, List.set_cons_succ])
    refine take_d (i := 6) (v := ?vp1q7) rfl (by rfl) (by kernel_rfl) (by kernel_rfl) (by kernel_rfl) (fun _ _ _ h => h) (Or.inl ⟨by rfl, ?hp1q7⟩) (by assumption) ?rp1q7
    case hp1q7 => (intro wS hSw; (try dsimp only at hSw); go_simp; try (with_reducible rfl))
    (try simp only [Act.put, List.setIfInBounds_toArray, List.set_cons_zero, List.set_cons_succ])
    refine take_d (i := 7) (v := ?vp1q8) rfl (by rfl) (by kernel_rfl) (by kernel_rfl) (by kernel_rfl) (fun _ _ _ h => h) (Or.inl ⟨by rfl, ?hp1q8⟩) (by assumption) ?rp1q8
    case hp1q8 => (intro wS hSw; (try dsimp only at hSw); go_simp; try (with_reducible rfl))
    (try simp only [Act.put, List.setIfInBounds_toArray, List.set_cons_zero, List.set_cons_succ])
    refine take_d (i := 8) (v := ?vp1q9) rfl (by rfl) (by kernel_rfl) (by kernel_rfl) (by kernel_rfl) (fun _ _ _ h => h) (Or.inl ⟨by rfl, ?hp1q9⟩) (by assumption) ?rp1q9
    case hp1q9 => (intro wS hSw; (try dsimp only at hSw); go_simp; try (with_reducible rfl))
    (try simp only [Act.put, List.setIfInBounds_toArray, List.set_cons_zero, List.set_cons_succ])
    refine wpAnyH_ready (rs := [9]) (by kernel_rfl) (by simp) ?_
    refine AllReadyH.cons rfl (fun K hK => ?_) AllReadyH.nil
    go_simp
    go_at_call 15
    refine (HW.out _).mono ?_
    rintro e wp1q10 ⟨rfl, bkp1q10⟩
    have hBn := below_next hBk bkp1q10
    clear hBk bkp1q10
    have hBk := hBn
    clear hBn
    try go_simp
    refine hK.out _ _ ?_ (fun hHeld => ?_)
    · (try dsimp only); exact keepS _ hBk
    clear hK K
    (try simp only [Act.put, List.setIfInBounds_toArray, List.set_cons_zero, List.set_cons_succ])
    refine take_d (i := 10) (v := ?vp1q11) rfl (by rfl) (by kernel_rfl) (by kernel_rfl) (by kernel_rfl) (fun _ _ _ h => h) (Or.inl ⟨by rfl, ?hp1q11⟩) (by assumption) ?rp1q11
    case hp1q11 => (intro wS hSw; (try dsimp only at hSw); go_simp; try (with_reducible rfl))
    (try simp only [Act.put, List.setIfInBounds_toArray, List.set_cons_zero, List.set_cons_succ])
    refine take_d (i := 11) (v := ?vp1q12) rfl (by rfl) (by kernel_rfl) (by kernel_rfl) (by kernel_rfl) (fun _ _ _ h => h) (Or.inl ⟨by rfl, ?hp1q12⟩) (by assumption) ?rp1q12
    case hp1q12 => (intro wS hSw; (try dsimp only at hSw); go_simp; try (with_reducible rfl))
    (try simp only [Act.put, List.setIfInBounds_toArray, List.set_cons_zero, List.set_cons_succ])
    refine wpAnyH_done (by kernel_rfl) ?_ _
    go_split_ands
    go_wp2
    go_ret
    exact ⟨rfl, below_next X2.out.i.bel hBk⟩
  cases q2
  · rw [Bool.false_and, Bool.and_false] at H1
    go_enter Try.func9, Try.ntmps9
    go_wp2_with (first | ((with_reducible refine at_load (d := some 6) 49 ?_); refine wpList_load_g (by rfl) 49 _ rfl w.heap.size (0) rfl (vwC V) _ a.out.i.r0 Try.underlying49 rfl hi49.out ?_))
    refine (HV.out _).mono ?_
    rintro e w1 ⟨rfl, z⟩
    have B1 := below_next (bel_alloc (Below.refl w.heap.size w)) z
    have X := hid (YN.out w1 B1 B1.size)
    have T := hid (YT.out w1)
    have hs1 := B1.size
    clear z B1
    have hrv1 : Hid (((w1.alloc (.cells (vwC Z0).toArray 55)).setCells w1.heap.size 0 (vwC V)).rangeAt w1.heap.size (1 * 4) [.int .u8 (V.vs 1).k, .int .i64 (V.vs 1).m, .int .u64 (V.vs 1).n, .int .i64 (V.vs 1).o]) := hid (range_val X.out.i.r0 1 (by decide))
    have hrv2 : Hid (((w1.alloc (.cells (vwC Z0).toArray 55)).setCells w1.heap.size 0 (vwC V)).rangeAt w1.heap.size (10 * 4) [.int .u8 (V.vs 10).k, .int .i64 (V.vs 10).m, .int .u64 (V.vs 10).n, .int .i64 (V.vs 10).o]) := hid (range_val X.out.i.r0 10 (by decide))
    have hiv : Hid (∀ k, (Try.prog.info? 41).map (·.size) = some (vC (V.vs k)).length) := hid (fun k => by rw [vC_len]; exact yinfo41)
    go_wp2_with (first | ((with_reducible refine at_store (x := .tmp 3) (y := .tmp 7) 55 ?_); refine wpList_store_vw (.tmp 3) (.tmp 7) rfl rfl w1.heap.size V hF.out rfl rfl T.out ?_) | ((with_reducible refine at_load (d := some 10) 41 ?_); refine wpList_load_g (by rfl) 41 _ rfl w1.heap.size (1 * 4) rfl ([.int .u8 (V.vs 1).k, .int .i64 (V.vs 1).m, .int .u64 (V.vs 1).n, .int .i64 (V.vs 1).o]) _ hrv1.out Try.underlying41 rfl (hiv.out 1) ?_) | ((with_reducible refine at_load (d := some 16) 41 ?_); refine wpList_load_g (by rfl) 41 _ rfl w1.heap.size (10 * 4) rfl ([.int .u8 (V.vs 10).k, .int .i64 (V.vs 10).m, .int .u64 (V.vs 10).n, .int .i64 (V.vs 10).o]) _ hrv2.out Try.underlying41 rfl (hiv.out 10) ?_) | ((with_reducible refine at_build (d := some 20) 36 ?_); refine wpList_val (.agg S0.toArray) ?a1b2 ?a2b2 ?a3b2; (case a1b2 => rfl); (case a2b2 => exact exec_build #[] (by simp [Act.eval]) (BS.out _))) | ((with_reducible refine at_load (d := some 21) 55 ?_); refine wpList_load_g (by rfl) 55 _ rfl w1.heap.size (0) rfl (vwC V) _ X.out.i.r0 Try.underlying55 rfl hi55.out ?_))
    refine (H0.out _).mono ?_
    rintro e w2 ⟨rfl, z⟩
    have X2 := hid (X.out.next z (by rw [size_setRow]; simp; omega))
    clear z X T hrv1 hrv2
    go_wp2_with fail
    have hx := X2.out.i.r0
    have hxs := X2.out.i.sz
    have keepS : ∀ W, Below w2.heap.size w2 W → W.rangeAt w1.heap.size 0 (vwC V) ∧ Below w2.heap.size w2 W := fun W hW => ⟨range_below hx hxs (Me.bcell hW).1, hW⟩
    have hu55 := Try.underlying55
    have hi5 := hi55.out
    have hB66 := Below.refl w2.heap.size w2
    refine wp_region_held_drew (S := (fun w' : World => w'.rangeAt w1.heap.size 0 (vwC V) ∧ Below w2.heap.size w2 w')) (by kernel_rfl) ?_ (fun hHeld => ?_)
    · (try dsimp only); (refine keepS _ ?_; first | (with_reducible assumption) | ((with_reducible refine Below.drew ?_); with_reducible assumption) | exact below_dr _)
    have hBk := below_dr w2
    refine take_d (i := 1) (v := _) rfl (by rfl) (by kernel_rfl) (by kernel_rfl) (by kernel_rfl) (fun _ _ _ h => h) (yieldsIf_load_mid (by rfl) _ _ rfl _ _ rfl (vwC V) _ ?hp2q1 hu55 rfl hi5) (by assumption) ?rp2q1
    case hp2q1 => (intro wS hSw; (try dsimp only at hSw); go_split_ands; assumption)
    (try simp only [Act.put, List.setIfInBounds_toArray, List.set_cons_zero, List.set_cons_succ])
    refine take_d (i := 3) (v := ?vp2q2) rfl (by rfl) (by kernel_rfl) (by kernel_rfl) (by kernel_rfl) (fun _ _ _ h => h) (Or.inl ⟨by rfl, ?hp2q2⟩) (by assumption) ?rp2q2
    case hp2q2 => (intro wS hSw; (try dsimp only at hSw); go_simp; try (with_reducible rfl))
    (try simp only [Act.put, List.setIfInBounds_toArray, List.set_cons_zero, List.set_cons_succ])
    refine wpAnyH_ready (rs := [0]) (by kernel_rfl) (by simp) ?_
    refine AllReadyH.cons rfl (fun K hK => ?_) AllReadyH.nil
    go_simp
    go_at_call 13
    refine (HB.out _).mono ?_
    rintro e wp2q3 ⟨rfl, bkp2q3⟩
    have hBn := below_next hBk bkp2q3
    clear hBk bkp2q3
    have hBk := hBn
    clear hBn
    try go_simp
    refine hK.out _ _ ?_ (fun hHeld => ?_)
    · (try dsimp only); exact keepS _ hBk
    clear hK K
    (try simp only [Act.put, List.setIfInBounds_toArray, List.set_cons_zero, List.set_cons_succ])
    refine wpAnyH_ready (rs := [2]) (by kernel_rfl) (by simp) ?_
    refine AllReadyH.cons rfl (fun K hK => ?_) AllReadyH.nil
    go_simp
    go_at_call 16
    refine (H1.out _).mono ?_
    rintro e wp2q4 ⟨rfl, bkp2q4⟩
    have hBn := below_next hBk bkp2q4
    clear hBk bkp2q4
    have hBk := hBn
    clear hBn
    try go_simp
    refine hK.out _ _ ?_ (fun hHeld => ?_)
    · (try dsimp only); exact keepS _ hBk
    clear hK K
    (try simp only [Act.put, List.setIfInBounds_toArray, List.set_cons_zero, List.set_cons_succ])
    refine take_d (i := 4) (v := ?vp2q5) rfl (by rfl) (by kernel_rfl) (by kernel_rfl) (by kernel_rfl) (fun _ _ _ h => h) (Or.inl ⟨by rfl, ?hp2q5⟩) (by assumption) ?rp2q5
    case hp2q5 => (intro wS hSw; (try dsimp only at hSw); go_simp; try (with_reducible rfl))
    (try simp only [Act.put, List.setIfInBounds_toArray, List.set_cons_zero, List.set_cons_succ])
    refine take_d (i := 5) (v := undef) rfl (by rfl) (by kernel_rfl) (by kernel_rfl) (by kernel_rfl) (fun _ _ _ h => h) (Or.inr ⟨by rfl, rfl⟩) (by assumption) ?rp2q6
    (try simp only [Act.put, List.setIfInBounds_toArray, List.set_cons_zero, List.set_cons_succ])
    refine take_d (i := 6) (v := ?vp2q7) rfl (by rfl) (by kernel_rfl) (by kernel_rfl) (by kernel_rfl) (fun _ _ _ h => h) (Or.inl ⟨by rfl, ?hp2q7⟩) (by assumption) ?rp2q7
    case hp2q7 => (intro wS hSw; (try dsimp only at hSw); go_simp; try (with_reducible rfl))
    (try simp only [Act.put, List.setIfInBounds_toArray, List.set_cons_zero, List.set_cons_succ])
    refine take_d (i := 7) (v := ?vp2q8) rfl (by rfl) (by kernel_rfl) (by kernel_rfl) (by kernel_rfl) (fun _ _ _ h => h) (Or.inl ⟨by rfl, ?hp2q8⟩) (by assumption) ?rp2q8
    case hp2q8 => (intro wS hSw; (try dsimp only at hSw); go_simp; try (with_reducible rfl))
    (try simp only [Act.put, List.setIfInBounds_toArray, List.set_cons_zero, List.set_cons_succ])
    refine take_d (i := 8) (v := ?vp2q9) rfl (by rfl) (by kernel_rfl) (by kernel_rfl) (by kernel_rfl) (fun _ _ _ h => h) (Or.inl ⟨by rfl, ?hp2q9⟩) (by assumption) ?rp2q9
    case hp2q9 => (intro wS hSw; (try dsimp only at hSw); go_simp; try (with_reducible rfl))
    (try simp only [Act.put, List.setIfInBounds_toArray, List.set_cons_zero, List.set_cons_succ])
    refine wpAnyH_ready (rs := [9]) (by kernel_rfl) (by simp) ?_
    refine AllReadyH.cons rfl (fun K hK => ?_) AllReadyH.nil
    go_simp
    go_at_call 15
    refine (HW.out _).mono ?_
    rintro e wp2q10 ⟨rfl, bkp2q10⟩
    have hBn := below_next hBk bkp2q10
    clear hBk bkp2q10
    have hBk := hBn
    clear hBn
    try go_simp
    refine hK.out _ _ ?_ (fun hHeld => ?_)
    · (try dsimp only); exact keepS _ hBk
    clear hK K
    (try simp only [Act.put, List.setIfInBounds_toArray, List.set_cons_zero, List.set_cons_succ])
    refine take_d (i := 10) (v := ?vp2q11) rfl (by rfl) (by kernel_rfl) (by kernel_rfl) (by kernel_rfl) (fun _ _ _ h => h) (Or.inl ⟨by rfl, ?hp2q11⟩) (by assumption) ?rp2q11
    case hp2q11 => (intro wS hSw; (try dsimp only at hSw); go_simp; try (with_reducible rfl))
    (try simp only [Act.put, List.setIfInBounds_toArray, List.set_cons_zero, List.set_cons_succ])
    refine take_d (i := 11) (v := ?vp2q12) rfl (by rfl) (by kernel_rfl) (by kernel_rfl) (by kernel_rfl) (fun _ _ _ h => h) (Or.inl ⟨by rfl, ?hp2q12⟩) (by assumption) ?rp2q12
    case hp2q12 => (intro wS hSw; (try dsimp only at hSw); go_simp; try (with_reducible rfl))
    (try simp only [Act.put, List.setIfInBounds_toArray, List.set_cons_zero, List.set_cons_succ])
    refine wpAnyH_done (by kernel_rfl) ?_ _
    go_split_ands
    go_wp2
    go_ret
    exact ⟨rfl, below_next X2.out.i.bel hBk⟩
  rw [Bool.true_and, Bool.true_and] at H1
  cases m
  · skip
    go_enter Try.func9, Try.ntmps9
    go_wp2_with (first | ((with_reducible refine at_load (d := some 6) 49 ?_); refine wpList_load_g (by rfl) 49 _ rfl w.heap.size (0) rfl (vwC V) _ a.out.i.r0 Try.underlying49 rfl hi49.out ?_))
    refine (HV.out _).mono ?_
    rintro e w1 ⟨rfl, z⟩
    have B1 := below_next (bel_alloc (Below.refl w.heap.size w)) z
    have X := hid (YN.out w1 B1 B1.size)
    have T := hid (YT.out w1)
    have hs1 := B1.size
    clear z B1
    have hrv1 : Hid (((w1.alloc (.cells (vwC Z0).toArray 55)).setCells w1.heap.size 0 (vwC V)).rangeAt w1.heap.size (1 * 4) [.int .u8 (V.vs 1).k, .int .i64 (V.vs 1).m, .int .u64 (V.vs 1).n, .int .i64 (V.vs 1).o]) := hid (range_val X.out.i.r0 1 (by decide))
    have hrv2 : Hid (((w1.alloc (.cells (vwC Z0).toArray 55)).setCells w1.heap.size 0 (vwC V)).rangeAt w1.heap.size (10 * 4) [.int .u8 (V.vs 10).k, .int .i64 (V.vs 10).m, .int .u64 (V.vs 10).n, .int .i64 (V.vs 10).o]) := hid (range_val X.out.i.r0 10 (by decide))
    have hiv : Hid (∀ k, (Try.prog.info? 41).map (·.size) = some (vC (V.vs k)).length) := hid (fun k => by rw [vC_len]; exact yinfo41)
    go_wp2_with (first | ((with_reducible refine at_store (x := .tmp 3) (y := .tmp 7) 55 ?_); refine wpList_store_vw (.tmp 3) (.tmp 7) rfl rfl w1.heap.size V hF.out rfl rfl T.out ?_) | ((with_reducible refine at_load (d := some 10) 41 ?_); refine wpList_load_g (by rfl) 41 _ rfl w1.heap.size (1 * 4) rfl ([.int .u8 (V.vs 1).k, .int .i64 (V.vs 1).m, .int .u64 (V.vs 1).n, .int .i64 (V.vs 1).o]) _ hrv1.out Try.underlying41 rfl (hiv.out 1) ?_) | ((with_reducible refine at_load (d := some 16) 41 ?_); refine wpList_load_g (by rfl) 41 _ rfl w1.heap.size (10 * 4) rfl ([.int .u8 (V.vs 10).k, .int .i64 (V.vs 10).m, .int .u64 (V.vs 10).n, .int .i64 (V.vs 10).o]) _ hrv2.out Try.underlying41 rfl (hiv.out 10) ?_) | ((with_reducible refine at_build (d := some 20) 36 ?_); refine wpList_val (.agg S0.toArray) ?a1b3 ?a2b3 ?a3b3; (case a1b3 => rfl); (case a2b3 => exact exec_build #[] (by simp [Act.eval]) (BS.out _))) | ((with_reducible refine at_load (d := some 21) 55 ?_); refine wpList_load_g (by rfl) 55 _ rfl w1.heap.size (0) rfl (vwC V) _ X.out.i.r0 Try.underlying55 rfl hi55.out ?_))
    refine (H0.out _).mono ?_
    rintro e w2 ⟨rfl, z⟩
    have X2 := hid (X.out.next z (by rw [size_setRow]; simp; omega))
    clear z X T hrv1 hrv2
    go_wp2_with fail
    have hx := X2.out.i.r0
    have hxs := X2.out.i.sz
    have keepS : ∀ W, Below w2.heap.size w2 W → W.rangeAt w1.heap.size 0 (vwC V) ∧ Below w2.heap.size w2 W := fun W hW => ⟨range_below hx hxs (Me.bcell hW).1, hW⟩
    have hu55 := Try.underlying55
    have hi5 := hi55.out
    have hB66 := Below.refl w2.heap.size w2
    refine wp_region_held_drew (S := (fun w' : World => w'.rangeAt w1.heap.size 0 (vwC V) ∧ Below w2.heap.size w2 w')) (by kernel_rfl) ?_ (fun hHeld => ?_)
    · (try dsimp only); (refine keepS _ ?_; first | (with_reducible assumption) | ((with_reducible refine Below.drew ?_); with_reducible assumption) | exact below_dr _)
    have hBk := below_dr w2
    refine take_d (i := 1) (v := _) rfl (by rfl) (by kernel_rfl) (by kernel_rfl) (by kernel_rfl) (fun _ _ _ h => h) (yieldsIf_load_mid (by rfl) _ _ rfl _ _ rfl (vwC V) _ ?hp3q1 hu55 rfl hi5) (by assumption) ?rp3q1
    case hp3q1 => (intro wS hSw; (try dsimp only at hSw); go_split_ands; assumption)
    (try simp only [Act.put, List.setIfInBounds_toArray, List.set_cons_zero, List.set_cons_succ])
    refine take_d (i := 3) (v := ?vp3q2) rfl (by rfl) (by kernel_rfl) (by kernel_rfl) (by kernel_rfl) (fun _ _ _ h => h) (Or.inl ⟨by rfl, ?hp3q2⟩) (by assumption) ?rp3q2
    case hp3q2 => (intro wS hSw; (try dsimp only at hSw); go_simp; try (with_reducible rfl))
    (try simp only [Act.put, List.setIfInBounds_toArray, List.set_cons_zero, List.set_cons_succ])
    refine wpAnyH_ready (rs := [0]) (by kernel_rfl) (by simp) ?_
    refine AllReadyH.cons rfl (fun K hK => ?_) AllReadyH.nil
    go_simp
    go_at_call 13
    refine (HB.out _).mono ?_
    rintro e wp3q3 ⟨rfl, bkp3q3⟩
    have hBn := below_next hBk bkp3q3
    clear hBk bkp3q3
    have hBk := hBn
    clear hBn
    try go_simp
    refine hK.out _ _ ?_ (fun hHeld => ?_)
    · (try dsimp only); exact keepS _ hBk
    clear hK K
    (try simp only [Act.put, List.setIfInBounds_toArray, List.set_cons_zero, List.set_cons_succ])
    refine wpAnyH_ready (rs := [2]) (by kernel_rfl) (by simp) ?_
    refine AllReadyH.cons rfl (fun K hK => ?_) AllReadyH.nil
    go_simp
    go_at_call 16
    refine (H1.out _).mono ?_
    rintro e wp3q4 ⟨rfl, bkp3q4⟩
    have hBn := below_next hBk bkp3q4
    clear hBk bkp3q4
    have hBk := hBn
    clear hBn
    try go_simp
    refine hK.out _ _ ?_ (fun hHeld => ?_)
    · (try dsimp only); exact keepS _ hBk
    clear hK K
    (try simp only [Act.put, List.setIfInBounds_toArray, List.set_cons_zero, List.set_cons_succ])
    refine take_d (i := 4) (v := ?vp3q5) rfl (by rfl) (by kernel_rfl) (by kernel_rfl) (by kernel_rfl) (fun _ _ _ h => h) (Or.inl ⟨by rfl, ?hp3q5⟩) (by assumption) ?rp3q5
    case hp3q5 => (intro wS hSw; (try dsimp only at hSw); go_simp; try (with_reducible rfl))
    (try simp only [Act.put, List.setIfInBounds_toArray, List.set_cons_zero, List.set_cons_succ])
    refine take_d (i := 5) (v := ?vp3q6) rfl (by rfl) (by kernel_rfl) (by kernel_rfl) (by kernel_rfl) (fun _ _ _ h => h) (Or.inl ⟨by rfl, ?hp3q6⟩) (by assumption) ?rp3q6
    case hp3q6 => (intro wS hSw; (try dsimp only at hSw); go_simp; try (with_reducible rfl))
    (try simp only [Act.put, List.setIfInBounds_toArray, List.set_cons_zero, List.set_cons_succ])
    refine take_d (i := 6) (v := ?vp3q7) rfl (by rfl) (by kernel_rfl) (by kernel_rfl) (by kernel_rfl) (fun _ _ _ h => h) (Or.inl ⟨by rfl, ?hp3q7⟩) (by assumption) ?rp3q7
    case hp3q7 => (intro wS hSw; (try dsimp only at hSw); go_simp; try (with_reducible rfl))
    (try simp only [Act.put, List.setIfInBounds_toArray, List.set_cons_zero, List.set_cons_succ])
    refine take_d (i := 7) (v := ?vp3q8) rfl (by rfl) (by kernel_rfl) (by kernel_rfl) (by kernel_rfl) (fun _ _ _ h => h) (Or.inl ⟨by rfl, ?hp3q8⟩) (by assumption) ?rp3q8
    case hp3q8 => (intro wS hSw; (try dsimp only at hSw); go_simp; try (with_reducible rfl))
    (try simp only [Act.put, List.setIfInBounds_toArray, List.set_cons_zero, List.set_cons_succ])
    refine take_d (i := 8) (v := ?vp3q9) rfl (by rfl) (by kernel_rfl) (by kernel_rfl) (by kernel_rfl) (fun _ _ _ h => h) (Or.inl ⟨by rfl, ?hp3q9⟩) (by assumption) ?rp3q9
    case hp3q9 => (intro wS hSw; (try dsimp only at hSw); go_simp; try (with_reducible rfl))
    (try simp only [Act.put, List.setIfInBounds_toArray, List.set_cons_zero, List.set_cons_succ])
    refine wpAnyH_ready (rs := [9]) (by kernel_rfl) (by simp) ?_
    refine AllReadyH.cons rfl (fun K hK => ?_) AllReadyH.nil
    go_simp
    go_at_call 15
    refine (HW.out _).mono ?_
    rintro e wp3q10 ⟨rfl, bkp3q10⟩
    have hBn := below_next hBk bkp3q10
    clear hBk bkp3q10
    have hBk := hBn
    clear hBn
    try go_simp
    refine hK.out _ _ ?_ (fun hHeld => ?_)
    · (try dsimp only); exact keepS _ hBk
    clear hK K
    (try simp only [Act.put, List.setIfInBounds_toArray, List.set_cons_zero, List.set_cons_succ])
    refine take_d (i := 10) (v := ?vp3q11) rfl (by rfl) (by kernel_rfl) (by kernel_rfl) (by kernel_rfl) (fun _ _ _ h => h) (Or.inl ⟨by rfl, ?hp3q11⟩) (by assumption) ?rp3q11
    case hp3q11 => (intro wS hSw; (try dsimp only at hSw); go_simp; try (with_reducible rfl))
    (try simp only [Act.put, List.setIfInBounds_toArray, List.set_cons_zero, List.set_cons_succ])
    refine take_d (i := 11) (v := ?vp3q12) rfl (by rfl) (by kernel_rfl) (by kernel_rfl) (by kernel_rfl) (fun _ _ _ h => h) (Or.inl ⟨by rfl, ?hp3q12⟩) (by assumption) ?rp3q12
    case hp3q12 => (intro wS hSw; (try dsimp only at hSw); go_simp; try (with_reducible rfl))
    (try simp only [Act.put, List.setIfInBounds_toArray, List.set_cons_zero, List.set_cons_succ])
    refine wpAnyH_done (by kernel_rfl) ?_ _
    go_split_ands
    go_wp2
    go_ret
    exact ⟨rfl, below_next X2.out.i.bel hBk⟩
  · skip
    go_enter Try.func9, Try.ntmps9
    go_wp2_with (first | ((with_reducible refine at_load (d := some 6) 49 ?_); refine wpList_load_g (by rfl) 49 _ rfl w.heap.size (0) rfl (vwC V) _ a.out.i.r0 Try.underlying49 rfl hi49.out ?_))
    refine (HV.out _).mono ?_
    rintro e w1 ⟨rfl, z⟩
    have B1 := below_next (bel_alloc (Below.refl w.heap.size w)) z
    have X := hid (YN.out w1 B1 B1.size)
    have T := hid (YT.out w1)
    have hs1 := B1.size
    clear z B1
    have hrv1 : Hid (((w1.alloc (.cells (vwC Z0).toArray 55)).setCells w1.heap.size 0 (vwC V)).rangeAt w1.heap.size (1 * 4) [.int .u8 (V.vs 1).k, .int .i64 (V.vs 1).m, .int .u64 (V.vs 1).n, .int .i64 (V.vs 1).o]) := hid (range_val X.out.i.r0 1 (by decide))
    have hrv2 : Hid (((w1.alloc (.cells (vwC Z0).toArray 55)).setCells w1.heap.size 0 (vwC V)).rangeAt w1.heap.size (10 * 4) [.int .u8 (V.vs 10).k, .int .i64 (V.vs 10).m, .int .u64 (V.vs 10).n, .int .i64 (V.vs 10).o]) := hid (range_val X.out.i.r0 10 (by decide))
    have hiv : Hid (∀ k, (Try.prog.info? 41).map (·.size) = some (vC (V.vs k)).length) := hid (fun k => by rw [vC_len]; exact yinfo41)
    go_wp2_with (first | ((with_reducible refine at_store (x := .tmp 3) (y := .tmp 7) 55 ?_); refine wpList_store_vw (.tmp 3) (.tmp 7) rfl rfl w1.heap.size V hF.out rfl rfl T.out ?_) | ((with_reducible refine at_load (d := some 10) 41 ?_); refine wpList_load_g (by rfl) 41 _ rfl w1.heap.size (1 * 4) rfl ([.int .u8 (V.vs 1).k, .int .i64 (V.vs 1).m, .int .u64 (V.vs 1).n, .int .i64 (V.vs 1).o]) _ hrv1.out Try.underlying41 rfl (hiv.out 1) ?_) | ((with_reducible refine at_load (d := some 16) 41 ?_); refine wpList_load_g (by rfl) 41 _ rfl w1.heap.size (10 * 4) rfl ([.int .u8 (V.vs 10).k, .int .i64 (V.vs 10).m, .int .u64 (V.vs 10).n, .int .i64 (V.vs 10).o]) _ hrv2.out Try.underlying41 rfl (hiv.out 10) ?_) | ((with_reducible refine at_build (d := some 20) 36 ?_); refine wpList_val (.agg S0.toArray) ?a1b4 ?a2b4 ?a3b4; (case a1b4 => rfl); (case a2b4 => exact exec_build #[] (by simp [Act.eval]) (BS.out _))) | ((with_reducible refine at_load (d := some 21) 55 ?_); refine wpList_load_g (by rfl) 55 _ rfl w1.heap.size (0) rfl (vwC V) _ X.out.i.r0 Try.underlying55 rfl hi55.out ?_))
    refine (H0.out _).mono ?_
    rintro e w2 ⟨rfl, z⟩
    have X2 := hid (X.out.next z (by rw [size_setRow]; simp; omega))
    clear z X T hrv1 hrv2
    go_wp2_with fail
    have hx := X2.out.i.r0
    have hxs := X2.out.i.sz
    have keepS : ∀ W, Below w2.heap.size w2 W → W.rangeAt w1.heap.size 0 (vwC V) ∧ Below w2.heap.size w2 W := fun W hW => ⟨range_below hx hxs (Me.bcell hW).1, hW⟩
    have hu55 := Try.underlying55
    have hi5 := hi55.out
    have hB66 := Below.refl w2.heap.size w2
    refine wp_region_held_drew (S := (fun w' : World => w'.rangeAt w1.heap.size 0 (vwC V) ∧ Below w2.heap.size w2 w')) (by kernel_rfl) ?_ (fun hHeld => ?_)
    · (try dsimp only); (refine keepS _ ?_; first | (with_reducible assumption) | ((with_reducible refine Below.drew ?_); with_reducible assumption) | exact below_dr _)
    have hBk := below_dr w2
    refine take_d (i := 1) (v := _) rfl (by rfl) (by kernel_rfl) (by kernel_rfl) (by kernel_rfl) (fun _ _ _ h => h) (yieldsIf_load_mid (by rfl) _ _ rfl _ _ rfl (vwC V) _ ?hp4q1 hu55 rfl hi5) (by assumption) ?rp4q1
    case hp4q1 => (intro wS hSw; (try dsimp only at hSw); go_split_ands; assumption)
    (try simp only [Act.put, List.setIfInBounds_toArray, List.set_cons_zero, List.set_cons_succ])
    refine take_d (i := 3) (v := ?vp4q2) rfl (by rfl) (by kernel_rfl) (by kernel_rfl) (by kernel_rfl) (fun _ _ _ h => h) (Or.inl ⟨by rfl, ?hp4q2⟩) (by assumption) ?rp4q2
    case hp4q2 => (intro wS hSw; (try dsimp only at hSw); go_simp; try (with_reducible rfl))
    (try simp only [Act.put, List.setIfInBounds_toArray, List.set_cons_zero, List.set_cons_succ])
    refine wpAnyH_ready (rs := [0]) (by kernel_rfl) (by simp) ?_
    refine AllReadyH.cons rfl (fun K hK => ?_) AllReadyH.nil
    go_simp
    go_at_call 13
    refine (HB.out _).mono ?_
    rintro e wp4q3 ⟨rfl, bkp4q3⟩
    have hBn := below_next hBk bkp4q3
    clear hBk bkp4q3
    have hBk := hBn
    clear hBn
    try go_simp
    refine hK.out _ _ ?_ (fun hHeld => ?_)
    · (try dsimp only); exact keepS _ hBk
    clear hK K
    (try simp only [Act.put, List.setIfInBounds_toArray, List.set_cons_zero, List.set_cons_succ])
    refine wpAnyH_ready (rs := [2]) (by kernel_rfl) (by simp) ?_
    refine AllReadyH.cons rfl (fun K hK => ?_) AllReadyH.nil
    go_simp
    go_at_call 16
    refine (H1.out _).mono ?_
    rintro e wp4q4 ⟨rfl, bkp4q4⟩
    have hBn := below_next hBk bkp4q4
    clear hBk bkp4q4
    have hBk := hBn
    clear hBn
    try go_simp
    refine hK.out _ _ ?_ (fun hHeld => ?_)
    · (try dsimp only); exact keepS _ hBk
    clear hK K
    (try simp only [Act.put, List.setIfInBounds_toArray, List.set_cons_zero, List.set_cons_succ])
    refine take_d (i := 4) (v := ?vp4q5) rfl (by rfl) (by kernel_rfl) (by kernel_rfl) (by kernel_rfl) (fun _ _ _ h => h) (Or.inl ⟨by rfl, ?hp4q5⟩) (by assumption) ?rp4q5
    case hp4q5 => (intro wS hSw; (try dsimp only at hSw); go_simp; try (with_reducible rfl))
    (try simp only [Act.put, List.setIfInBounds_toArray, List.set_cons_zero, List.set_cons_succ])
    refine take_d (i := 5) (v := ?vp4q6) rfl (by rfl) (by kernel_rfl) (by kernel_rfl) (by kernel_rfl) (fun _ _ _ h => h) (Or.inl ⟨by rfl, ?hp4q6⟩) (by assumption) ?rp4q6
    case hp4q6 => (intro wS hSw; (try dsimp only at hSw); go_simp; try (with_reducible rfl))
    (try simp only [Act.put, List.setIfInBounds_toArray, List.set_cons_zero, List.set_cons_succ])
    refine take_d (i := 6) (v := ?vp4q7) rfl (by rfl) (by kernel_rfl) (by kernel_rfl) (by kernel_rfl) (fun _ _ _ h => h) (Or.inl ⟨by rfl, ?hp4q7⟩) (by assumption) ?rp4q7
    case hp4q7 => (intro wS hSw; (try dsimp only at hSw); go_simp; try (with_reducible rfl))
    (try simp only [Act.put, List.setIfInBounds_toArray, List.set_cons_zero, List.set_cons_succ])
    refine take_d (i := 7) (v := ?vp4q8) rfl (by rfl) (by kernel_rfl) (by kernel_rfl) (by kernel_rfl) (fun _ _ _ h => h) (Or.inl ⟨by rfl, ?hp4q8⟩) (by assumption) ?rp4q8
    case hp4q8 => (intro wS hSw; (try dsimp only at hSw); go_simp; try (with_reducible rfl))
    (try simp only [Act.put, List.setIfInBounds_toArray, List.set_cons_zero, List.set_cons_succ])
    refine take_d (i := 8) (v := ?vp4q9) rfl (by rfl) (by kernel_rfl) (by kernel_rfl) (by kernel_rfl) (fun _ _ _ h => h) (Or.inl ⟨by rfl, ?hp4q9⟩) (by assumption) ?rp4q9
    case hp4q9 => (intro wS hSw; (try dsimp only at hSw); go_simp; try (with_reducible rfl))
    (try simp only [Act.put, List.setIfInBounds_toArray, List.set_cons_zero, List.set_cons_succ])
    refine wpAnyH_ready (rs := [9]) (by kernel_rfl) (by simp) ?_
    refine AllReadyH.cons rfl (fun K hK => ?_) AllReadyH.nil
    go_simp
    go_at_call 15
    refine (HW.out _).mono ?_
    rintro e wp4q10 ⟨rfl, bkp4q10⟩
    have hBn := below_next hBk bkp4q10
    clear hBk bkp4q10
    have hBk := hBn
    clear hBn
    try go_simp
    refine hK.out _ _ ?_ (fun hHeld => ?_)
    · (try dsimp only); exact keepS _ hBk
    clear hK K
    (try simp only [Act.put, List.setIfInBounds_toArray, List.set_cons_zero, List.set_cons_succ])
    refine take_d (i := 10) (v := ?vp4q11) rfl (by rfl) (by kernel_rfl) (by kernel_rfl) (by kernel_rfl) (fun _ _ _ h => h) (Or.inl ⟨by rfl, ?hp4q11⟩) (by assumption) ?rp4q11
    case hp4q11 => (intro wS hSw; (try dsimp only at hSw); go_simp; try (with_reducible rfl))
    (try simp only [Act.put, List.setIfInBounds_toArray, List.set_cons_zero, List.set_cons_succ])
    refine take_d (i := 11) (v := ?vp4q12) rfl (by rfl) (by kernel_rfl) (by kernel_rfl) (by kernel_rfl) (fun _ _ _ h => h) (Or.inl ⟨by rfl, ?hp4q12⟩) (by assumption) ?rp4q12
    case hp4q12 => (intro wS hSw; (try dsimp only at hSw); go_simp; try (with_reducible rfl))
    (try simp only [Act.put, List.setIfInBounds_toArray, List.set_cons_zero, List.set_cons_succ])
    refine wpAnyH_done (by kernel_rfl) ?_ _
    go_split_ands
    go_wp2
    go_ret
    exact ⟨rfl, below_next X2.out.i.bel hBk⟩
end Go.Proofs.Ytcgokiahlldaoaa
