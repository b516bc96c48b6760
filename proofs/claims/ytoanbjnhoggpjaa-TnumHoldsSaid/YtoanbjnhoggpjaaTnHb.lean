/-
  TnumHolds: the walk where both may be, way by way.
-/
import Derived.Test.YtoanbjnhoggpjaaTnHa
import Derived.Lib.MinMax
namespace Go.Proofs.Ytoanbjnhoggpjaa
set_option linter.unusedSimpArgs false
set_option linter.unusedVariables false
open Go.ChangeShapes Go.WideShapes Go.ChangeAt Go.RowKit

set_option maxRecDepth 100000 in
set_option maxHeartbeats 8000000 in
theorem holds_111 (a b : Tn) (n0 n1 n2 : B64) (w : World) (ha : tmay a = true) (hb : tmay b = true) (h1 : thas a n0 = true) (h2 : thas b n0 = true) (h3 : meetB a b = true) (lo hi : B64)
    (hmin : min (ub n1) (ub n2) = ub lo) (hmax : max (ub n1) (ub n2) = ub hi) (hlh : ub lo ≤ ub hi) : Calls Try.prog 10 #[tv a, tv b, .agg #[.int .u64 (ub n0), .int .u64 (ub n1), .int .u64 (ub n2)]] w fun e w' => e = .returned (.bool true) ∧ Below w.heap.size w w' := by
  have hmh := meet_has ha hb n0
  have hjh := join_has ha hb n0
  rw [h3, h1, h2] at hmh
  rw [h1, h2] at hjh
  have HAW := hid awake_true
  have HA := fun W => tMay_any a W
  have HB := fun W => tMay_any b W
  rw [ha] at HA
  rw [hb] at HB
  have HX1 := fun W => tMeet_any a b W
  rw [h3] at HX1
  have HX2 := fun W => tJoin_any a b W
  rw [show bothT a b (joinT a b) = joinT a b by unfold bothT; rw [ha, hb]; rfl, show bothE a b = 0 by unfold bothE; rw [ha, hb]; rfl] at HX2
  have HHa := fun W => tHas_any a n0 W
  have HHb := fun W => tHas_any b n0 W
  rw [h1] at HHa
  rw [h2] at HHb
  have HHm := fun W => tHas_any (meetT a b) n0 W
  have HHj := fun W => tHas_any (joinT a b) n0 W
  have HRg := fun W => tRange_any lo hi W
  rw [show rangeT lo hi = rgT lo hi by unfold rangeT; rw [if_neg (by omega)]; rfl, show rangeE lo hi = 0 by unfold rangeE; rw [if_neg (by omega)]] at HRg
  have HRl := fun W => tHas_any (rgT lo hi) lo W
  have HRh := fun W => tHas_any (rgT lo hi) hi W
  rw [rg_lo] at HRl
  rw [rg_hi] at HRh
  have HRx := fun W (h : ub lo ≤ ub n0 ∧ ub n0 ≤ ub hi) => (rg_mid h.1 h.2) ▸ tHas_any (rgT lo hi) n0 W
  generalize thas (meetT a b) n0 = vm at hmh HHm
  generalize thas (joinT a b) n0 = vj at hjh HHj
  obtain ⟨M, hM⟩ : ∃ M, M = (if true then meetT a b else t0) := ⟨_, rfl⟩
  rw [← hM] at HX1
  have hMm : true = true → M = meetT a b := fun h => by rw [hM, h]; rfl
  clear hM h1 h2 h3 ha hb
  have hmm : true = true → ∀ W, Calls Try.prog 46 #[tv M, .int .u64 (ub n0)] W fun e w' => e = .returned (.bool vm) ∧ Below W.heap.size W w' := fun h W => by rw [hMm h]; exact HHm W
  clear HHm hMm
  generalize joinT a b = J at HX2 HHj
  have hr1 := low_and (LL lo hi) (LL_le lo hi)
  rw [← rg_m] at hr1
  have hr2 := rg_eq lo hi
  have hr3 := rg_out lo hi
  have hr4 := fun h : lo ≠ hi => rg_big h
  generalize rgT lo hi = R at *
  unfold tv at HA HB HX1 HX2 HHa HHb HHj HRg HRl HRh HRx hmm ⊢
  have HA' := hid HA
  have HB' := hid HB
  have HX1' := hid HX1
  have HX2' := hid HX2
  have HHa' := hid HHa
  have HHb' := hid HHb
  have HHj' := hid HHj
  have HHm' := hid hmm
  have HRg' := hid HRg
  have HRl' := hid HRl
  have HRh' := hid HRh
  have HRx' := hid HRx
  have hmh' := hid hmh
  have hjh' := hid hjh
  have hr1' := hid hr1
  have hr2' := hid hr2
  have hr3' := hid hr3
  have hr4' := hid hr4
  have hmin' := hid hmin
  have hmax' := hid hmax
  clear HA HB HX1 HX2 HHa HHb HHj hmm HRg HRl HRh HRx hmh hjh hr1 hr2 hr3 hr4 hmin hmax
  go_enter Try.func10, Try.ntmps10
  go_wp2_with fail
  refine (HAW.out _).mono ?_
  rintro e w1 ⟨rfl, z1⟩
  have I : HoI w a b n0 n1 n2 w1 := ⟨((TC.new rfl).alloc _ |>.alloc _).below z1, ((TC.new (by simp)).alloc _).below z1, (AC.new (by simp)).below z1, ((((Below.refl _ _).alloc (Nat.le_refl _) _).alloc (by simp) _).alloc (by simp; omega) _).trans (z1.mono (by simp; omega))⟩
  clear z1
  have p0 := I.ca.1
  have q0 := I.ca.2.1
  have r0 := I.ca.2.2
  have p1 := I.cb.1
  have q1 := I.cb.2.1
  have r1 := I.cb.2.2
  go_wp2_with fail
  refine (HA'.out _).mono ?_
  rintro e w2 ⟨rfl, z2⟩
  clear p0 q0 r0 p1 q1 r1
  replace I := I.next z2
  clear z2
  have p0 := I.ca.1
  have q0 := I.ca.2.1
  have r0 := I.ca.2.2
  have p1 := I.cb.1
  have q1 := I.cb.2.1
  have r1 := I.cb.2.2
  go_wp2_with fail
  refine (HB'.out _).mono ?_
  rintro e w3 ⟨rfl, z3⟩
  clear p0 q0 r0 p1 q1 r1
  replace I := I.next z3
  clear z3
  have p0 := I.ca.1
  have q0 := I.ca.2.1
  have r0 := I.ca.2.2
  have p1 := I.cb.1
  have q1 := I.cb.2.1
  have r1 := I.cb.2.2
  go_wp2_with fail
  refine (HX1'.out _).mono ?_
  rintro e w4 ⟨rfl, z4⟩
  clear p0 q0 r0 p1 q1 r1
  replace I := I.next z4
  clear z4
  have p0 := I.ca.1
  have q0 := I.ca.2.1
  have r0 := I.ca.2.2
  have p1 := I.cb.1
  have q1 := I.cb.2.1
  have r1 := I.cb.2.2
  go_wp2_with fail
  refine (HX2'.out _).mono ?_
  rintro e w5 ⟨rfl, z5⟩
  clear p0 q0 r0 p1 q1 r1
  have G1 : TC w5 w4.heap.size M := (TC.new rfl).below z5
  replace I := (I.next ((Below.refl _ _).alloc (Nat.le_refl _) (.cells #[.int .u64 (ub M.1), .int .u64 (ub M.2)] 24))).next z5
  clear z5
  have p0 := I.ca.1
  have q0 := I.ca.2.1
  have r0 := I.ca.2.2
  have p1 := I.cb.1
  have q1 := I.cb.2.1
  have r1 := I.cb.2.2
  have x1 := I.cc.2.1
  have x2 := I.cc.1
  go_wp2_with fail
  clear p0 q0 r0 p1 q1 r1 x1 x2
  replace I := I.next ((Below.refl w5.heap.size w5).alloc (Nat.le_refl _) (.cells #[.int .u64 (ub J.1), .int .u64 (ub J.2)] 24))
  replace G1 := G1.alloc (.cells #[.int .u64 (ub J.1), .int .u64 (ub J.2)] 24)
  have G2 : TC (w5.alloc (.cells #[.int .u64 (ub J.1), .int .u64 (ub J.2)] 24)) w5.heap.size J := TC.new rfl
  generalize w5.alloc (.cells #[.int .u64 (ub J.1), .int .u64 (ub J.2)] 24) = w6 at I G1 G2 ⊢
  generalize w4.heap.size = g1 at G1 ⊢
  generalize w5.heap.size = g2 at G2 ⊢
  have JI := hid (show HoJ w a b n0 n1 n2 g1 M g2 J w6 from ⟨I, G1, G2⟩)
  have q0 := I.ca.2.1
  have r0 := I.ca.2.2
  have q1 := I.cb.2.1
  have r1 := I.cb.2.2
  have q2 := G1.2.1
  have r2 := G1.2.2
  have q3 := G2.2.1
  have r3 := G2.2.2
  clear I G1 G2
  obtain rfl : vm = true := by have := hmh'.out; simpa using this
  have HHm2 := hid (HHm'.out (by trivial))
  obtain rfl : vj = true := hjh'.out (by simp)
  clear hmh' hjh' HHm'
  refine wp_region_held_drew (S := (fun w' : World => Below w6.heap.size w6 w')) (by kernel_rfl) ?_ (fun hHeld => ?_)
  · (try dsimp only); first | (with_reducible exact below_dr _) | (with_reducible exact Below.refl _ _) | exact below_dr _
  have hBk := below_dr w6
  refine take_d (i := 0) (v := ?vh1111) rfl (by rfl) (by kernel_rfl) (by kernel_rfl) (by kernel_rfl) (fun _ _ _ h => h) (Or.inl ⟨by rfl, ?hh1111⟩) (by assumption) ?rh1111
  case hh1111 => (intro wS hSw; (try dsimp only at hSw); go_simp; try (with_reducible rfl))
  (try simp only [Act.put, List.setIfInBounds_toArray, List.set_cons_zero, List.set_cons_succ])
  refine take_d (i := 1) (v := ?vh1112) rfl (by rfl) (by kernel_rfl) (by kernel_rfl) (by kernel_rfl) (fun _ _ _ h => h) (Or.inl ⟨by rfl, ?hh1112⟩) (by assumption) ?rh1112
  case hh1112 => (intro wS hSw; (try dsimp only at hSw); go_simp; try (with_reducible rfl))
  (try simp only [Act.put, List.setIfInBounds_toArray, List.set_cons_zero, List.set_cons_succ])
  refine take_d (i := 2) (v := ?vh1113) rfl (by rfl) (by kernel_rfl) (by kernel_rfl) (by kernel_rfl) (fun _ _ _ h => h) (Or.inl ⟨by rfl, ?hh1113⟩) (by assumption) ?rh1113
  case hh1113 => (intro wS hSw; (try dsimp only at hSw); have hcq0 := cn hSw q2; have hcq1 := cn hSw r2; go_simp; try (with_reducible rfl))
  (try simp only [Act.put, List.setIfInBounds_toArray, List.set_cons_zero, List.set_cons_succ])
  refine take_d (i := 3) (v := ?vh1114) rfl (by rfl) (by kernel_rfl) (by kernel_rfl) (by kernel_rfl) (fun _ _ _ h => h) (Or.inl ⟨by rfl, ?hh1114⟩) (by assumption) ?rh1114
  case hh1114 => (intro wS hSw; (try dsimp only at hSw); go_simp; try (with_reducible rfl))
  (try simp only [Act.put, List.setIfInBounds_toArray, List.set_cons_zero, List.set_cons_succ])
  refine take_d (i := 6) (v := ?vh1115) rfl (by rfl) (by kernel_rfl) (by kernel_rfl) (by kernel_rfl) (fun _ _ _ h => h) (Or.inl ⟨by rfl, ?hh1115⟩) (by assumption) ?rh1115
  case hh1115 => (intro wS hSw; (try dsimp only at hSw); have hcq0 := cn hSw q0; have hcq1 := cn hSw r0; go_simp; try (with_reducible rfl))
  (try simp only [Act.put, List.setIfInBounds_toArray, List.set_cons_zero, List.set_cons_succ])
  refine take_d (i := 7) (v := ?vh1116) rfl (by rfl) (by kernel_rfl) (by kernel_rfl) (by kernel_rfl) (fun _ _ _ h => h) (Or.inl ⟨by rfl, ?hh1116⟩) (by assumption) ?rh1116
  case hh1116 => (intro wS hSw; (try dsimp only at hSw); go_simp; try (with_reducible rfl))
  (try simp only [Act.put, List.setIfInBounds_toArray, List.set_cons_zero, List.set_cons_succ])
  refine wpAnyH_ready (rs := [4]) (by kernel_rfl) (by simp) ?_
  refine AllReadyH.cons rfl (fun K hK => ?_) AllReadyH.nil
  go_simp
  go_at_call 46
  refine (HHm2.out _).mono ?_
  rintro e wh1117 ⟨rfl, bkh1117⟩
  have hBn := below_next hBk bkh1117
  clear hBk bkh1117
  have hBk := hBn
  clear hBn
  try go_simp
  refine hK.out _ _ ?_ (fun hHeld => ?_)
  · (try dsimp only); exact hBk
  clear hK K
  (try simp only [Act.put, List.setIfInBounds_toArray, List.set_cons_zero, List.set_cons_succ])
  refine take_d (i := 5) (v := ?vh1118) rfl (by rfl) (by kernel_rfl) (by kernel_rfl) (by kernel_rfl) (fun _ _ _ h => h) (Or.inl ⟨by rfl, ?hh1118⟩) (by assumption) ?rh1118
  case hh1118 => (intro wS hSw; (try dsimp only at hSw); go_simp; try (with_reducible rfl))
  (try simp only [Act.put, List.setIfInBounds_toArray, List.set_cons_zero, List.set_cons_succ])
  refine wpAnyH_ready (rs := [8]) (by kernel_rfl) (by simp) ?_
  refine AllReadyH.cons rfl (fun K hK => ?_) AllReadyH.nil
  go_simp
  go_at_call 46
  refine (HHa'.out _).mono ?_
  rintro e wh1119 ⟨rfl, bkh1119⟩
  have hBn := below_next hBk bkh1119
  clear hBk bkh1119
  have hBk := hBn
  clear hBn
  try go_simp
  refine hK.out _ _ ?_ (fun hHeld => ?_)
  · (try dsimp only); exact hBk
  clear hK K
  (try simp only [Act.put, List.setIfInBounds_toArray, List.set_cons_zero, List.set_cons_succ])
  refine take_d (i := 9) (v := ?vh11110) rfl (by rfl) (by kernel_rfl) (by kernel_rfl) (by kernel_rfl) (fun _ _ _ h => h) (Or.inl ⟨by rfl, ?hh11110⟩) (by assumption) ?rh11110
  case hh11110 => (intro wS hSw; (try dsimp only at hSw); go_simp; try (with_reducible rfl))
  (try simp only [Act.put, List.setIfInBounds_toArray, List.set_cons_zero, List.set_cons_succ])
  refine take_d (i := 10) (v := ?vh11111) rfl (by rfl) (by kernel_rfl) (by kernel_rfl) (by kernel_rfl) (fun _ _ _ h => h) (Or.inl ⟨by rfl, ?hh11111⟩) (by assumption) ?rh11111
  case hh11111 => (intro wS hSw; (try dsimp only at hSw); have hcq0 := cn hSw q1; have hcq1 := cn hSw r1; go_simp; try (with_reducible rfl))
  (try simp only [Act.put, List.setIfInBounds_toArray, List.set_cons_zero, List.set_cons_succ])
  refine take_d (i := 11) (v := ?vh11112) rfl (by rfl) (by kernel_rfl) (by kernel_rfl) (by kernel_rfl) (fun _ _ _ h => h) (Or.inl ⟨by rfl, ?hh11112⟩) (by assumption) ?rh11112
  case hh11112 => (intro wS hSw; (try dsimp only at hSw); go_simp; try (with_reducible rfl))
  (try simp only [Act.put, List.setIfInBounds_toArray, List.set_cons_zero, List.set_cons_succ])
  refine wpAnyH_ready (rs := [12]) (by kernel_rfl) (by simp) ?_
  refine AllReadyH.cons rfl (fun K hK => ?_) AllReadyH.nil
  go_simp
  go_at_call 46
  refine (HHb'.out _).mono ?_
  rintro e wh11113 ⟨rfl, bkh11113⟩
  have hBn := below_next hBk bkh11113
  clear hBk bkh11113
  have hBk := hBn
  clear hBn
  try go_simp
  refine hK.out _ _ ?_ (fun hHeld => ?_)
  · (try dsimp only); exact hBk
  clear hK K
  (try simp only [Act.put, List.setIfInBounds_toArray, List.set_cons_zero, List.set_cons_succ])
  refine take_d (i := 13) (v := ?vh11114) rfl (by rfl) (by kernel_rfl) (by kernel_rfl) (by kernel_rfl) (fun _ _ _ h => h) (Or.inl ⟨by rfl, ?hh11114⟩) (by assumption) ?rh11114
  case hh11114 => (intro wS hSw; (try dsimp only at hSw); go_simp; try (with_reducible rfl))
  (try simp only [Act.put, List.setIfInBounds_toArray, List.set_cons_zero, List.set_cons_succ])
  refine take_d (i := 14) (v := ?vh11115) rfl (by rfl) (by kernel_rfl) (by kernel_rfl) (by kernel_rfl) (fun _ _ _ h => h) (Or.inl ⟨by rfl, ?hh11115⟩) (by assumption) ?rh11115
  case hh11115 => (intro wS hSw; (try dsimp only at hSw); go_simp; try (with_reducible rfl))
  (try simp only [Act.put, List.setIfInBounds_toArray, List.set_cons_zero, List.set_cons_succ])
  refine take_d (i := 15) (v := ?vh11116) rfl (by rfl) (by kernel_rfl) (by kernel_rfl) (by kernel_rfl) (fun _ _ _ h => h) (Or.inl ⟨by rfl, ?hh11116⟩) (by assumption) ?rh11116
  case hh11116 => (intro wS hSw; (try dsimp only at hSw); go_simp; try (with_reducible rfl))
  (try simp only [Act.put, List.setIfInBounds_toArray, List.set_cons_zero, List.set_cons_succ])
  refine take_d (i := 16) (v := ?vh11117) rfl (by rfl) (by kernel_rfl) (by kernel_rfl) (by kernel_rfl) (fun _ _ _ h => h) (Or.inl ⟨by rfl, ?hh11117⟩) (by assumption) ?rh11117
  case hh11117 => (intro wS hSw; (try dsimp only at hSw); have hcq0 := cn hSw q0; have hcq1 := cn hSw r0; go_simp; try (with_reducible rfl))
  (try simp only [Act.put, List.setIfInBounds_toArray, List.set_cons_zero, List.set_cons_succ])
  refine take_d (i := 17) (v := ?vh11118) rfl (by rfl) (by kernel_rfl) (by kernel_rfl) (by kernel_rfl) (fun _ _ _ h => h) (Or.inl ⟨by rfl, ?hh11118⟩) (by assumption) ?rh11118
  case hh11118 => (intro wS hSw; (try dsimp only at hSw); go_simp; try (with_reducible rfl))
  (try simp only [Act.put, List.setIfInBounds_toArray, List.set_cons_zero, List.set_cons_succ])
  refine wpAnyH_ready (rs := [18]) (by kernel_rfl) (by simp) ?_
  refine AllReadyH.cons rfl (fun K hK => ?_) AllReadyH.nil
  go_simp
  go_at_call 46
  refine (HHa'.out _).mono ?_
  rintro e wh11119 ⟨rfl, bkh11119⟩
  have hBn := below_next hBk bkh11119
  clear hBk bkh11119
  have hBk := hBn
  clear hBn
  try go_simp
  refine hK.out _ _ ?_ (fun hHeld => ?_)
  · (try dsimp only); exact hBk
  clear hK K
  (try simp only [Act.put, List.setIfInBounds_toArray, List.set_cons_zero, List.set_cons_succ])
  refine take_d (i := 19) (v := ?vh11120) rfl (by rfl) (by kernel_rfl) (by kernel_rfl) (by kernel_rfl) (fun _ _ _ h => h) (Or.inl ⟨by rfl, ?hh11120⟩) (by assumption) ?rh11120
  case hh11120 => (intro wS hSw; (try dsimp only at hSw); go_simp; try (with_reducible rfl))
  (try simp only [Act.put, List.setIfInBounds_toArray, List.set_cons_zero, List.set_cons_succ])
  refine take_d (i := 20) (v := undef) rfl (by rfl) (by kernel_rfl) (by kernel_rfl) (by kernel_rfl) (fun _ _ _ h => h) (Or.inr ⟨by rfl, rfl⟩) (by assumption) ?rh11121
  (try simp only [Act.put, List.setIfInBounds_toArray, List.set_cons_zero, List.set_cons_succ])
  refine take_d (i := 21) (v := undef) rfl (by rfl) (by kernel_rfl) (by kernel_rfl) (by kernel_rfl) (fun _ _ _ h => h) (Or.inr ⟨by rfl, rfl⟩) (by assumption) ?rh11122
  (try simp only [Act.put, List.setIfInBounds_toArray, List.set_cons_zero, List.set_cons_succ])
  refine take_d (i := 22) (v := undef) rfl (by rfl) (by kernel_rfl) (by kernel_rfl) (by kernel_rfl) (fun _ _ _ h => h) (Or.inr ⟨by rfl, rfl⟩) (by assumption) ?rh11123
  (try simp only [Act.put, List.setIfInBounds_toArray, List.set_cons_zero, List.set_cons_succ])
  refine take_d (i := 23) (v := ?vh11124) rfl (by rfl) (by kernel_rfl) (by kernel_rfl) (by kernel_rfl) (fun _ _ _ h => h) (Or.inl ⟨by rfl, ?hh11124⟩) (by assumption) ?rh11124
  case hh11124 => (intro wS hSw; (try dsimp only at hSw); go_simp; try (with_reducible rfl))
  (try simp only [Act.put, List.setIfInBounds_toArray, List.set_cons_zero, List.set_cons_succ])
  refine take_d (i := 24) (v := ?vh11125) rfl (by rfl) (by kernel_rfl) (by kernel_rfl) (by kernel_rfl) (fun _ _ _ h => h) (Or.inl ⟨by rfl, ?hh11125⟩) (by assumption) ?rh11125
  case hh11125 => (intro wS hSw; (try dsimp only at hSw); go_simp; try (with_reducible rfl))
  (try simp only [Act.put, List.setIfInBounds_toArray, List.set_cons_zero, List.set_cons_succ])
  refine take_d (i := 25) (v := ?vh11126) rfl (by rfl) (by kernel_rfl) (by kernel_rfl) (by kernel_rfl) (fun _ _ _ h => h) (Or.inl ⟨by rfl, ?hh11126⟩) (by assumption) ?rh11126
  case hh11126 => (intro wS hSw; (try dsimp only at hSw); have hcq0 := cn hSw q3; have hcq1 := cn hSw r3; go_simp; try (with_reducible rfl))
  (try simp only [Act.put, List.setIfInBounds_toArray, List.set_cons_zero, List.set_cons_succ])
  refine take_d (i := 26) (v := ?vh11127) rfl (by rfl) (by kernel_rfl) (by kernel_rfl) (by kernel_rfl) (fun _ _ _ h => h) (Or.inl ⟨by rfl, ?hh11127⟩) (by assumption) ?rh11127
  case hh11127 => (intro wS hSw; (try dsimp only at hSw); go_simp; try (with_reducible rfl))
  (try simp only [Act.put, List.setIfInBounds_toArray, List.set_cons_zero, List.set_cons_succ])
  refine wpAnyH_ready (rs := [27]) (by kernel_rfl) (by simp) ?_
  refine AllReadyH.cons rfl (fun K hK => ?_) AllReadyH.nil
  go_simp
  go_at_call 46
  refine (HHj'.out _).mono ?_
  rintro e wh11128 ⟨rfl, bkh11128⟩
  have hBn := below_next hBk bkh11128
  clear hBk bkh11128
  have hBk := hBn
  clear hBn
  try go_simp
  refine hK.out _ _ ?_ (fun hHeld => ?_)
  · (try dsimp only); exact hBk
  clear hK K
  (try simp only [Act.put, List.setIfInBounds_toArray, List.set_cons_zero, List.set_cons_succ])
  refine take_d (i := 28) (v := ?vh11129) rfl (by rfl) (by kernel_rfl) (by kernel_rfl) (by kernel_rfl) (fun _ _ _ h => h) (Or.inl ⟨by rfl, ?hh11129⟩) (by assumption) ?rh11129
  case hh11129 => (intro wS hSw; (try dsimp only at hSw); go_simp; try (with_reducible rfl))
  (try simp only [Act.put, List.setIfInBounds_toArray, List.set_cons_zero, List.set_cons_succ])
  refine take_d (i := 29) (v := ?vh11130) rfl (by rfl) (by kernel_rfl) (by kernel_rfl) (by kernel_rfl) (fun _ _ _ h => h) (Or.inl ⟨by rfl, ?hh11130⟩) (by assumption) ?rh11130
  case hh11130 => (intro wS hSw; (try dsimp only at hSw); go_simp; try (with_reducible rfl))
  (try simp only [Act.put, List.setIfInBounds_toArray, List.set_cons_zero, List.set_cons_succ])
  refine take_d (i := 30) (v := ?vh11131) rfl (by rfl) (by kernel_rfl) (by kernel_rfl) (by kernel_rfl) (fun _ _ _ h => h) (Or.inl ⟨by rfl, ?hh11131⟩) (by assumption) ?rh11131
  case hh11131 => (intro wS hSw; (try dsimp only at hSw); go_simp; try (with_reducible rfl))
  (try simp only [Act.put, List.setIfInBounds_toArray, List.set_cons_zero, List.set_cons_succ])
  refine wpAnyH_done (by kernel_rfl) ?_ _
  have J2 := JI.out.next hBk
  clear JI hBk q0 r0 q1 r1 q2 r2 q3 r3 HHa' HHb' HHj' HHm2
  have I2 := J2.i
  clear J2
  have c1 := I2.cc.2.2.1
  have c2 := I2.cc.2.2.2
  have hl := I2.cc.1
  have hm1 := hmin'.out
  have hm2 := hmax'.out
  go_wp2_with fail
  refine wp_region_held_drew (S := (fun w' : World => Below wh11128.heap.size wh11128 w')) (by kernel_rfl) ?_ (fun hHeld => ?_)
  · (try dsimp only); first | (with_reducible exact below_dr _) | (with_reducible exact Below.refl _ _) | exact below_dr _
  have hBk := below_dr wh11128
  refine take_d (i := 0) (v := ?vk1111) rfl (by rfl) (by kernel_rfl) (by kernel_rfl) (by kernel_rfl) (fun _ _ _ h => h) (Or.inl ⟨by rfl, ?hk1111⟩) (by assumption) ?rk1111
  case hk1111 => (intro wS hSw; (try dsimp only at hSw); go_simp; try (with_reducible rfl))
  (try simp only [Act.put, List.setIfInBounds_toArray, List.set_cons_zero, List.set_cons_succ])
  refine take_d (i := 1) (v := ?vk1112) rfl (by rfl) (by kernel_rfl) (by kernel_rfl) (by kernel_rfl) (fun _ _ _ h => h) (Or.inl ⟨by rfl, ?hk1112⟩) (by assumption) ?rk1112
  case hk1112 => (intro wS hSw; (try dsimp only at hSw); have hcq0 := cn hSw c1; go_simp; try (with_reducible rfl))
  (try simp only [Act.put, List.setIfInBounds_toArray, List.set_cons_zero, List.set_cons_succ])
  refine take_d (i := 2) (v := ?vk1113) rfl (by rfl) (by kernel_rfl) (by kernel_rfl) (by kernel_rfl) (fun _ _ _ h => h) (Or.inl ⟨by rfl, ?hk1113⟩) (by assumption) ?rk1113
  case hk1113 => (intro wS hSw; (try dsimp only at hSw); go_simp; try (with_reducible rfl))
  (try simp only [Act.put, List.setIfInBounds_toArray, List.set_cons_zero, List.set_cons_succ])
  refine take_d (i := 3) (v := ?vk1114) rfl (by rfl) (by kernel_rfl) (by kernel_rfl) (by kernel_rfl) (fun _ _ _ h => h) (Or.inl ⟨by rfl, ?hk1114⟩) (by assumption) ?rk1114
  case hk1114 => (intro wS hSw; (try dsimp only at hSw); have hcq0 := cn hSw c2; go_simp; try (with_reducible rfl))
  (try simp only [Act.put, List.setIfInBounds_toArray, List.set_cons_zero, List.set_cons_succ])
  refine take_d (i := 4) (v := ?vk1115) rfl (by rfl) (by kernel_rfl) (by kernel_rfl) (by kernel_rfl) (fun _ _ _ h => h) (Or.inl ⟨by rfl, ?hk1115⟩) (by assumption) ?rk1115
  case hk1115 => (intro wS hSw; (try dsimp only at hSw); go_simp; try (with_reducible rfl))
  (try simp only [Act.put, List.setIfInBounds_toArray, List.set_cons_zero, List.set_cons_succ])
  refine take_d (i := 5) (v := ?vk1116) rfl (by rfl) (by kernel_rfl) (by kernel_rfl) (by kernel_rfl) (fun _ _ _ h => h) (Or.inl ⟨by rfl, ?hk1116⟩) (by assumption) ?rk1116
  case hk1116 => (intro wS hSw; (try dsimp only at hSw); go_simp; try (with_reducible rfl))
  (try simp only [Act.put, List.setIfInBounds_toArray, List.set_cons_zero, List.set_cons_succ])
  refine take_d (i := 6) (v := ?vk1117) rfl (by rfl) (by kernel_rfl) (by kernel_rfl) (by kernel_rfl) (fun _ _ _ h => h) (Or.inl ⟨by rfl, ?hk1117⟩) (by assumption) ?rk1117
  case hk1117 => (intro wS hSw; (try dsimp only at hSw); have hcq0 := cn hSw c1; go_simp; try (with_reducible rfl))
  (try simp only [Act.put, List.setIfInBounds_toArray, List.set_cons_zero, List.set_cons_succ])
  refine take_d (i := 7) (v := ?vk1118) rfl (by rfl) (by kernel_rfl) (by kernel_rfl) (by kernel_rfl) (fun _ _ _ h => h) (Or.inl ⟨by rfl, ?hk1118⟩) (by assumption) ?rk1118
  case hk1118 => (intro wS hSw; (try dsimp only at hSw); go_simp; try (with_reducible rfl))
  (try simp only [Act.put, List.setIfInBounds_toArray, List.set_cons_zero, List.set_cons_succ])
  refine take_d (i := 8) (v := ?vk1119) rfl (by rfl) (by kernel_rfl) (by kernel_rfl) (by kernel_rfl) (fun _ _ _ h => h) (Or.inl ⟨by rfl, ?hk1119⟩) (by assumption) ?rk1119
  case hk1119 => (intro wS hSw; (try dsimp only at hSw); have hcq0 := cn hSw c2; go_simp; try (with_reducible rfl))
  (try simp only [Act.put, List.setIfInBounds_toArray, List.set_cons_zero, List.set_cons_succ])
  refine take_d (i := 9) (v := ?vk11110) rfl (by rfl) (by kernel_rfl) (by kernel_rfl) (by kernel_rfl) (fun _ _ _ h => h) (Or.inl ⟨by rfl, ?hk11110⟩) (by assumption) ?rk11110
  case hk11110 => (intro wS hSw; (try dsimp only at hSw); go_simp; try (with_reducible rfl))
  (try simp only [Act.put, List.setIfInBounds_toArray, List.set_cons_zero, List.set_cons_succ])
  refine take_d (i := 10) (v := ?vk11111) rfl (by rfl) (by kernel_rfl) (by kernel_rfl) (by kernel_rfl) (fun _ _ _ h => h) (Or.inl ⟨by rfl, ?hk11111⟩) (by assumption) ?rk11111
  case hk11111 => (intro wS hSw; (try dsimp only at hSw); go_simp; try (with_reducible rfl))
  (try simp only [Act.put, List.setIfInBounds_toArray, List.set_cons_zero, List.set_cons_succ])
  refine take_d (i := 11) (v := ?vk11112) rfl (by rfl) (by kernel_rfl) (by kernel_rfl) (by kernel_rfl) (fun _ _ _ h => h) (Or.inl ⟨by rfl, ?hk11112⟩) (by assumption) ?rk11112
  case hk11112 => (intro wS hSw; (try dsimp only at hSw); go_simp; try (with_reducible rfl))
  (try simp only [Act.put, List.setIfInBounds_toArray, List.set_cons_zero, List.set_cons_succ])
  refine wpAnyH_done (by kernel_rfl) ?_ _
  replace I2 := I2.next hBk
  clear c1 c2 hl hm1 hm2 hBk
  generalize wh11128.drew = w8 at I2 ⊢
  go_wp2_with fail
  refine (HRg'.out _).mono ?_
  rintro e w9 ⟨rfl, z9⟩
  replace I2 := I2.next z9
  clear z9
  have hB := hid I2.bel
  clear I2
  go_wp2_with fail
  have G3 : TC (w9.alloc (.cells #[.int .u64 (ub R.1), .int .u64 (ub R.2)] 24)) w9.heap.size R := TC.new rfl
  have hB2 := hid (Below.alloc hB.out hB.out.size (.cells #[.int .u64 (ub R.1), .int .u64 (ub R.2)] 24))
  clear hB
  generalize w9.alloc (.cells #[.int .u64 (ub R.1), .int .u64 (ub R.2)] 24) = wx at G3 hB2 ⊢
  generalize w9.heap.size = g3 at G3 ⊢
  have hB := hB2
  clear hB2
  have s0 := G3.1
  have s1 := G3.2.1
  have s2 := G3.2.2
  go_wp2_with fail
  refine (HRl'.out _).mono ?_
  rintro e wa ⟨rfl, za⟩
  clear s0 s1 s2
  replace G3 := G3.below za
  have hB2 := hid (hB.out.trans (za.mono hB.out.size))
  clear hB za
  have hB := hB2
  clear hB2
  have s0 := G3.1
  have s1 := G3.2.1
  have s2 := G3.2.2
  go_wp2_with fail
  refine (HRh'.out _).mono ?_
  rintro e wb ⟨rfl, zb⟩
  clear s0 s1 s2
  replace G3 := G3.below zb
  have hB2 := hid (hB.out.trans (zb.mono hB.out.size))
  clear hB zb
  have hB := hB2
  clear hB2
  have s0 := G3.1
  have s1 := G3.2.1
  have s2 := G3.2.2
  by_cases hx1 : ub lo ≤ ub n0
  · by_cases hx2 : ub n0 ≤ ub hi
    · have HRx2 := hid (fun W => HRx'.out W ⟨hx1, hx2⟩)
      clear HRx'
      go_wp2_with fail
      refine (HRx2.out _).mono ?_
      rintro e wc ⟨rfl, zc⟩
      clear s0 s1 s2
      replace G3 := G3.below zc
      have hB2 := hid (hB.out.trans (zc.mono hB.out.size))
      clear hB zc
      have hB := hB2
      clear hB2
      have s0 := G3.1
      have s1 := G3.2.1
      have s2 := G3.2.2
      have e1 := hr1'.out
      have e2 := hr2'.out
      have e3 := hr3'.out
      clear hr1' hr2' hr3'
      by_cases hq : lo = hi
      · have e5 : (lo == hi) = true := by rw [hq]; exact beq_self_eq_true hi
        have e6 : (R.2 == 0#64) = true := by rw [← e2, e5]
        clear e2 hr4' hq
        go_wp2
        go_ret
        exact ⟨rfl, hB.out⟩
      · have e4 := hr4'.out hq
        have e5 : (lo == hi) = false := beq_eq_false_iff_ne.2 hq
        have e6 : (R.2 == 0#64) = false := by rw [← e2, e5]
        clear e2 hr4' hq
        go_wp2
        go_ret
        exact ⟨rfl, hB.out⟩
    · clear HRx'
      have e1 := hr1'.out
      have e2 := hr2'.out
      have e3 := hr3'.out
      clear hr1' hr2' hr3'
      by_cases hq : lo = hi
      · have e5 : (lo == hi) = true := by rw [hq]; exact beq_self_eq_true hi
        have e6 : (R.2 == 0#64) = true := by rw [← e2, e5]
        clear e2 hr4' hq
        go_wp2
        go_ret
        exact ⟨rfl, hB.out⟩
      · have e4 := hr4'.out hq
        have e5 : (lo == hi) = false := beq_eq_false_iff_ne.2 hq
        have e6 : (R.2 == 0#64) = false := by rw [← e2, e5]
        clear e2 hr4' hq
        go_wp2
        go_ret
        exact ⟨rfl, hB.out⟩
  · clear HRx'
    have e1 := hr1'.out
    have e2 := hr2'.out
    have e3 := hr3'.out
    clear hr1' hr2' hr3'
    by_cases hq : lo = hi
    · have e5 : (lo == hi) = true := by rw [hq]; exact beq_self_eq_true hi
      have e6 : (R.2 == 0#64) = true := by rw [← e2, e5]
      clear e2 hr4' hq
      go_wp2
      go_ret
      exact ⟨rfl, hB.out⟩
    · have e4 := hr4'.out hq
      have e5 : (lo == hi) = false := beq_eq_false_iff_ne.2 hq
      have e6 : (R.2 == 0#64) = false := by rw [← e2, e5]
      clear e2 hr4' hq
      go_wp2
      go_ret
      exact ⟨rfl, hB.out⟩
set_option maxRecDepth 100000 in
set_option maxHeartbeats 8000000 in
theorem holds_110 (a b : Tn) (n0 n1 n2 : B64) (w : World) (ha : tmay a = true) (hb : tmay b = true) (h1 : thas a n0 = true) (h2 : thas b n0 = false) (h3 : meetB a b = true) (lo hi : B64)
    (hmin : min (ub n1) (ub n2) = ub lo) (hmax : max (ub n1) (ub n2) = ub hi) (hlh : ub lo ≤ ub hi) : Calls Try.prog 10 #[tv a, tv b, .agg #[.int .u64 (ub n0), .int .u64 (ub n1), .int .u64 (ub n2)]] w fun e w' => e = .returned (.bool true) ∧ Below w.heap.size w w' := by
  have hmh := meet_has ha hb n0
  have hjh := join_has ha hb n0
  rw [h3, h1, h2] at hmh
  rw [h1, h2] at hjh
  have HAW := hid awake_true
  have HA := fun W => tMay_any a W
  have HB := fun W => tMay_any b W
  rw [ha] at HA
  rw [hb] at HB
  have HX1 := fun W => tMeet_any a b W
  rw [h3] at HX1
  have HX2 := fun W => tJoin_any a b W
  rw [show bothT a b (joinT a b) = joinT a b by unfold bothT; rw [ha, hb]; rfl, show bothE a b = 0 by unfold bothE; rw [ha, hb]; rfl] at HX2
  have HHa := fun W => tHas_any a n0 W
  have HHb := fun W => tHas_any b n0 W
  rw [h1] at HHa
  rw [h2] at HHb
  have HHm := fun W => tHas_any (meetT a b) n0 W
  have HHj := fun W => tHas_any (joinT a b) n0 W
  have HRg := fun W => tRange_any lo hi W
  rw [show rangeT lo hi = rgT lo hi by unfold rangeT; rw [if_neg (by omega)]; rfl, show rangeE lo hi = 0 by unfold rangeE; rw [if_neg (by omega)]] at HRg
  have HRl := fun W => tHas_any (rgT lo hi) lo W
  have HRh := fun W => tHas_any (rgT lo hi) hi W
  rw [rg_lo] at HRl
  rw [rg_hi] at HRh
  have HRx := fun W (h : ub lo ≤ ub n0 ∧ ub n0 ≤ ub hi) => (rg_mid h.1 h.2) ▸ tHas_any (rgT lo hi) n0 W
  generalize thas (meetT a b) n0 = vm at hmh HHm
  generalize thas (joinT a b) n0 = vj at hjh HHj
  obtain ⟨M, hM⟩ : ∃ M, M = (if true then meetT a b else t0) := ⟨_, rfl⟩
  rw [← hM] at HX1
  have hMm : true = true → M = meetT a b := fun h => by rw [hM, h]; rfl
  clear hM h1 h2 h3 ha hb
  have hmm : true = true → ∀ W, Calls Try.prog 46 #[tv M, .int .u64 (ub n0)] W fun e w' => e = .returned (.bool vm) ∧ Below W.heap.size W w' := fun h W => by rw [hMm h]; exact HHm W
  clear HHm hMm
  generalize joinT a b = J at HX2 HHj
  have hr1 := low_and (LL lo hi) (LL_le lo hi)
  rw [← rg_m] at hr1
  have hr2 := rg_eq lo hi
  have hr3 := rg_out lo hi
  have hr4 := fun h : lo ≠ hi => rg_big h
  generalize rgT lo hi = R at *
  unfold tv at HA HB HX1 HX2 HHa HHb HHj HRg HRl HRh HRx hmm ⊢
  have HA' := hid HA
  have HB' := hid HB
  have HX1' := hid HX1
  have HX2' := hid HX2
  have HHa' := hid HHa
  have HHb' := hid HHb
  have HHj' := hid HHj
  have HHm' := hid hmm
  have HRg' := hid HRg
  have HRl' := hid HRl
  have HRh' := hid HRh
  have HRx' := hid HRx
  have hmh' := hid hmh
  have hjh' := hid hjh
  have hr1' := hid hr1
  have hr2' := hid hr2
  have hr3' := hid hr3
  have hr4' := hid hr4
  have hmin' := hid hmin
  have hmax' := hid hmax
  clear HA HB HX1 HX2 HHa HHb HHj hmm HRg HRl HRh HRx hmh hjh hr1 hr2 hr3 hr4 hmin hmax
  go_enter Try.func10, Try.ntmps10
  go_wp2_with fail
  refine (HAW.out _).mono ?_
  rintro e w1 ⟨rfl, z1⟩
  have I : HoI w a b n0 n1 n2 w1 := ⟨((TC.new rfl).alloc _ |>.alloc _).below z1, ((TC.new (by simp)).alloc _).below z1, (AC.new (by simp)).below z1, ((((Below.refl _ _).alloc (Nat.le_refl _) _).alloc (by simp) _).alloc (by simp; omega) _).trans (z1.mono (by simp; omega))⟩
  clear z1
  have p0 := I.ca.1
  have q0 := I.ca.2.1
  have r0 := I.ca.2.2
  have p1 := I.cb.1
  have q1 := I.cb.2.1
  have r1 := I.cb.2.2
  go_wp2_with fail
  refine (HA'.out _).mono ?_
  rintro e w2 ⟨rfl, z2⟩
  clear p0 q0 r0 p1 q1 r1
  replace I := I.next z2
  clear z2
  have p0 := I.ca.1
  have q0 := I.ca.2.1
  have r0 := I.ca.2.2
  have p1 := I.cb.1
  have q1 := I.cb.2.1
  have r1 := I.cb.2.2
  go_wp2_with fail
  refine (HB'.out _).mono ?_
  rintro e w3 ⟨rfl, z3⟩
  clear p0 q0 r0 p1 q1 r1
  replace I := I.next z3
  clear z3
  have p0 := I.ca.1
  have q0 := I.ca.2.1
  have r0 := I.ca.2.2
  have p1 := I.cb.1
  have q1 := I.cb.2.1
  have r1 := I.cb.2.2
  go_wp2_with fail
  refine (HX1'.out _).mono ?_
  rintro e w4 ⟨rfl, z4⟩
  clear p0 q0 r0 p1 q1 r1
  replace I := I.next z4
  clear z4
  have p0 := I.ca.1
  have q0 := I.ca.2.1
  have r0 := I.ca.2.2
  have p1 := I.cb.1
  have q1 := I.cb.2.1
  have r1 := I.cb.2.2
  go_wp2_with fail
  refine (HX2'.out _).mono ?_
  rintro e w5 ⟨rfl, z5⟩
  clear p0 q0 r0 p1 q1 r1
  have G1 : TC w5 w4.heap.size M := (TC.new rfl).below z5
  replace I := (I.next ((Below.refl _ _).alloc (Nat.le_refl _) (.cells #[.int .u64 (ub M.1), .int .u64 (ub M.2)] 24))).next z5
  clear z5
  have p0 := I.ca.1
  have q0 := I.ca.2.1
  have r0 := I.ca.2.2
  have p1 := I.cb.1
  have q1 := I.cb.2.1
  have r1 := I.cb.2.2
  have x1 := I.cc.2.1
  have x2 := I.cc.1
  go_wp2_with fail
  clear p0 q0 r0 p1 q1 r1 x1 x2
  replace I := I.next ((Below.refl w5.heap.size w5).alloc (Nat.le_refl _) (.cells #[.int .u64 (ub J.1), .int .u64 (ub J.2)] 24))
  replace G1 := G1.alloc (.cells #[.int .u64 (ub J.1), .int .u64 (ub J.2)] 24)
  have G2 : TC (w5.alloc (.cells #[.int .u64 (ub J.1), .int .u64 (ub J.2)] 24)) w5.heap.size J := TC.new rfl
  generalize w5.alloc (.cells #[.int .u64 (ub J.1), .int .u64 (ub J.2)] 24) = w6 at I G1 G2 ⊢
  generalize w4.heap.size = g1 at G1 ⊢
  generalize w5.heap.size = g2 at G2 ⊢
  have JI := hid (show HoJ w a b n0 n1 n2 g1 M g2 J w6 from ⟨I, G1, G2⟩)
  have q0 := I.ca.2.1
  have r0 := I.ca.2.2
  have q1 := I.cb.2.1
  have r1 := I.cb.2.2
  have q2 := G1.2.1
  have r2 := G1.2.2
  have q3 := G2.2.1
  have r3 := G2.2.2
  clear I G1 G2
  obtain rfl : vm = false := by have := hmh'.out; simpa using this
  have HHm2 := hid (HHm'.out (by trivial))
  obtain rfl : vj = true := hjh'.out (by simp)
  clear hmh' hjh' HHm'
  refine wp_region_held_drew (S := (fun w' : World => Below w6.heap.size w6 w')) (by kernel_rfl) ?_ (fun hHeld => ?_)
  · (try dsimp only); first | (with_reducible exact below_dr _) | (with_reducible exact Below.refl _ _) | exact below_dr _
  have hBk := below_dr w6
  refine take_d (i := 0) (v := ?vh1101) rfl (by rfl) (by kernel_rfl) (by kernel_rfl) (by kernel_rfl) (fun _ _ _ h => h) (Or.inl ⟨by rfl, ?hh1101⟩) (by assumption) ?rh1101
  case hh1101 => (intro wS hSw; (try dsimp only at hSw); go_simp; try (with_reducible rfl))
  (try simp only [Act.put, List.setIfInBounds_toArray, List.set_cons_zero, List.set_cons_succ])
  refine take_d (i := 1) (v := ?vh1102) rfl (by rfl) (by kernel_rfl) (by kernel_rfl) (by kernel_rfl) (fun _ _ _ h => h) (Or.inl ⟨by rfl, ?hh1102⟩) (by assumption) ?rh1102
  case hh1102 => (intro wS hSw; (try dsimp only at hSw); go_simp; try (with_reducible rfl))
  (try simp only [Act.put, List.setIfInBounds_toArray, List.set_cons_zero, List.set_cons_succ])
  refine take_d (i := 2) (v := ?vh1103) rfl (by rfl) (by kernel_rfl) (by kernel_rfl) (by kernel_rfl) (fun _ _ _ h => h) (Or.inl ⟨by rfl, ?hh1103⟩) (by assumption) ?rh1103
  case hh1103 => (intro wS hSw; (try dsimp only at hSw); have hcq0 := cn hSw q2; have hcq1 := cn hSw r2; go_simp; try (with_reducible rfl))
  (try simp only [Act.put, List.setIfInBounds_toArray, List.set_cons_zero, List.set_cons_succ])
  refine take_d (i := 3) (v := ?vh1104) rfl (by rfl) (by kernel_rfl) (by kernel_rfl) (by kernel_rfl) (fun _ _ _ h => h) (Or.inl ⟨by rfl, ?hh1104⟩) (by assumption) ?rh1104
  case hh1104 => (intro wS hSw; (try dsimp only at hSw); go_simp; try (with_reducible rfl))
  (try simp only [Act.put, List.setIfInBounds_toArray, List.set_cons_zero, List.set_cons_succ])
  refine take_d (i := 6) (v := ?vh1105) rfl (by rfl) (by kernel_rfl) (by kernel_rfl) (by kernel_rfl) (fun _ _ _ h => h) (Or.inl ⟨by rfl, ?hh1105⟩) (by assumption) ?rh1105
  case hh1105 => (intro wS hSw; (try dsimp only at hSw); have hcq0 := cn hSw q0; have hcq1 := cn hSw r0; go_simp; try (with_reducible rfl))
  (try simp only [Act.put, List.setIfInBounds_toArray, List.set_cons_zero, List.set_cons_succ])
  refine take_d (i := 7) (v := ?vh1106) rfl (by rfl) (by kernel_rfl) (by kernel_rfl) (by kernel_rfl) (fun _ _ _ h => h) (Or.inl ⟨by rfl, ?hh1106⟩) (by assumption) ?rh1106
  case hh1106 => (intro wS hSw; (try dsimp only at hSw); go_simp; try (with_reducible rfl))
  (try simp only [Act.put, List.setIfInBounds_toArray, List.set_cons_zero, List.set_cons_succ])
  refine wpAnyH_ready (rs := [4]) (by kernel_rfl) (by simp) ?_
  refine AllReadyH.cons rfl (fun K hK => ?_) AllReadyH.nil
  go_simp
  go_at_call 46
  refine (HHm2.out _).mono ?_
  rintro e wh1107 ⟨rfl, bkh1107⟩
  have hBn := below_next hBk bkh1107
  clear hBk bkh1107
  have hBk := hBn
  clear hBn
  try go_simp
  refine hK.out _ _ ?_ (fun hHeld => ?_)
  · (try dsimp only); exact hBk
  clear hK K
  (try simp only [Act.put, List.setIfInBounds_toArray, List.set_cons_zero, List.set_cons_succ])
  refine take_d (i := 5) (v := ?vh1108) rfl (by rfl) (by kernel_rfl) (by kernel_rfl) (by kernel_rfl) (fun _ _ _ h => h) (Or.inl ⟨by rfl, ?hh1108⟩) (by assumption) ?rh1108
  case hh1108 => (intro wS hSw; (try dsimp only at hSw); go_simp; try (with_reducible rfl))
  (try simp only [Act.put, List.setIfInBounds_toArray, List.set_cons_zero, List.set_cons_succ])
  refine wpAnyH_ready (rs := [8]) (by kernel_rfl) (by simp) ?_
  refine AllReadyH.cons rfl (fun K hK => ?_) AllReadyH.nil
  go_simp
  go_at_call 46
  refine (HHa'.out _).mono ?_
  rintro e wh1109 ⟨rfl, bkh1109⟩
  have hBn := below_next hBk bkh1109
  clear hBk bkh1109
  have hBk := hBn
  clear hBn
  try go_simp
  refine hK.out _ _ ?_ (fun hHeld => ?_)
  · (try dsimp only); exact hBk
  clear hK K
  (try simp only [Act.put, List.setIfInBounds_toArray, List.set_cons_zero, List.set_cons_succ])
  refine take_d (i := 9) (v := ?vh11010) rfl (by rfl) (by kernel_rfl) (by kernel_rfl) (by kernel_rfl) (fun _ _ _ h => h) (Or.inl ⟨by rfl, ?hh11010⟩) (by assumption) ?rh11010
  case hh11010 => (intro wS hSw; (try dsimp only at hSw); go_simp; try (with_reducible rfl))
  (try simp only [Act.put, List.setIfInBounds_toArray, List.set_cons_zero, List.set_cons_succ])
  refine take_d (i := 10) (v := ?vh11011) rfl (by rfl) (by kernel_rfl) (by kernel_rfl) (by kernel_rfl) (fun _ _ _ h => h) (Or.inl ⟨by rfl, ?hh11011⟩) (by assumption) ?rh11011
  case hh11011 => (intro wS hSw; (try dsimp only at hSw); have hcq0 := cn hSw q1; have hcq1 := cn hSw r1; go_simp; try (with_reducible rfl))
  (try simp only [Act.put, List.setIfInBounds_toArray, List.set_cons_zero, List.set_cons_succ])
  refine take_d (i := 11) (v := ?vh11012) rfl (by rfl) (by kernel_rfl) (by kernel_rfl) (by kernel_rfl) (fun _ _ _ h => h) (Or.inl ⟨by rfl, ?hh11012⟩) (by assumption) ?rh11012
  case hh11012 => (intro wS hSw; (try dsimp only at hSw); go_simp; try (with_reducible rfl))
  (try simp only [Act.put, List.setIfInBounds_toArray, List.set_cons_zero, List.set_cons_succ])
  refine wpAnyH_ready (rs := [12]) (by kernel_rfl) (by simp) ?_
  refine AllReadyH.cons rfl (fun K hK => ?_) AllReadyH.nil
  go_simp
  go_at_call 46
  refine (HHb'.out _).mono ?_
  rintro e wh11013 ⟨rfl, bkh11013⟩
  have hBn := below_next hBk bkh11013
  clear hBk bkh11013
  have hBk := hBn
  clear hBn
  try go_simp
  refine hK.out _ _ ?_ (fun hHeld => ?_)
  · (try dsimp only); exact hBk
  clear hK K
  (try simp only [Act.put, List.setIfInBounds_toArray, List.set_cons_zero, List.set_cons_succ])
  refine take_d (i := 13) (v := ?vh11014) rfl (by rfl) (by kernel_rfl) (by kernel_rfl) (by kernel_rfl) (fun _ _ _ h => h) (Or.inl ⟨by rfl, ?hh11014⟩) (by assumption) ?rh11014
  case hh11014 => (intro wS hSw; (try dsimp only at hSw); go_simp; try (with_reducible rfl))
  (try simp only [Act.put, List.setIfInBounds_toArray, List.set_cons_zero, List.set_cons_succ])
  refine take_d (i := 14) (v := ?vh11015) rfl (by rfl) (by kernel_rfl) (by kernel_rfl) (by kernel_rfl) (fun _ _ _ h => h) (Or.inl ⟨by rfl, ?hh11015⟩) (by assumption) ?rh11015
  case hh11015 => (intro wS hSw; (try dsimp only at hSw); go_simp; try (with_reducible rfl))
  (try simp only [Act.put, List.setIfInBounds_toArray, List.set_cons_zero, List.set_cons_succ])
  refine take_d (i := 15) (v := ?vh11016) rfl (by rfl) (by kernel_rfl) (by kernel_rfl) (by kernel_rfl) (fun _ _ _ h => h) (Or.inl ⟨by rfl, ?hh11016⟩) (by assumption) ?rh11016
  case hh11016 => (intro wS hSw; (try dsimp only at hSw); go_simp; try (with_reducible rfl))
  (try simp only [Act.put, List.setIfInBounds_toArray, List.set_cons_zero, List.set_cons_succ])
  refine take_d (i := 16) (v := ?vh11017) rfl (by rfl) (by kernel_rfl) (by kernel_rfl) (by kernel_rfl) (fun _ _ _ h => h) (Or.inl ⟨by rfl, ?hh11017⟩) (by assumption) ?rh11017
  case hh11017 => (intro wS hSw; (try dsimp only at hSw); have hcq0 := cn hSw q0; have hcq1 := cn hSw r0; go_simp; try (with_reducible rfl))
  (try simp only [Act.put, List.setIfInBounds_toArray, List.set_cons_zero, List.set_cons_succ])
  refine take_d (i := 17) (v := ?vh11018) rfl (by rfl) (by kernel_rfl) (by kernel_rfl) (by kernel_rfl) (fun _ _ _ h => h) (Or.inl ⟨by rfl, ?hh11018⟩) (by assumption) ?rh11018
  case hh11018 => (intro wS hSw; (try dsimp only at hSw); go_simp; try (with_reducible rfl))
  (try simp only [Act.put, List.setIfInBounds_toArray, List.set_cons_zero, List.set_cons_succ])
  refine wpAnyH_ready (rs := [18]) (by kernel_rfl) (by simp) ?_
  refine AllReadyH.cons rfl (fun K hK => ?_) AllReadyH.nil
  go_simp
  go_at_call 46
  refine (HHa'.out _).mono ?_
  rintro e wh11019 ⟨rfl, bkh11019⟩
  have hBn := below_next hBk bkh11019
  clear hBk bkh11019
  have hBk := hBn
  clear hBn
  try go_simp
  refine hK.out _ _ ?_ (fun hHeld => ?_)
  · (try dsimp only); exact hBk
  clear hK K
  (try simp only [Act.put, List.setIfInBounds_toArray, List.set_cons_zero, List.set_cons_succ])
  refine take_d (i := 19) (v := ?vh11020) rfl (by rfl) (by kernel_rfl) (by kernel_rfl) (by kernel_rfl) (fun _ _ _ h => h) (Or.inl ⟨by rfl, ?hh11020⟩) (by assumption) ?rh11020
  case hh11020 => (intro wS hSw; (try dsimp only at hSw); go_simp; try (with_reducible rfl))
  (try simp only [Act.put, List.setIfInBounds_toArray, List.set_cons_zero, List.set_cons_succ])
  refine take_d (i := 20) (v := undef) rfl (by rfl) (by kernel_rfl) (by kernel_rfl) (by kernel_rfl) (fun _ _ _ h => h) (Or.inr ⟨by rfl, rfl⟩) (by assumption) ?rh11021
  (try simp only [Act.put, List.setIfInBounds_toArray, List.set_cons_zero, List.set_cons_succ])
  refine take_d (i := 21) (v := undef) rfl (by rfl) (by kernel_rfl) (by kernel_rfl) (by kernel_rfl) (fun _ _ _ h => h) (Or.inr ⟨by rfl, rfl⟩) (by assumption) ?rh11022
  (try simp only [Act.put, List.setIfInBounds_toArray, List.set_cons_zero, List.set_cons_succ])
  refine take_d (i := 22) (v := undef) rfl (by rfl) (by kernel_rfl) (by kernel_rfl) (by kernel_rfl) (fun _ _ _ h => h) (Or.inr ⟨by rfl, rfl⟩) (by assumption) ?rh11023
  (try simp only [Act.put, List.setIfInBounds_toArray, List.set_cons_zero, List.set_cons_succ])
  refine take_d (i := 23) (v := ?vh11024) rfl (by rfl) (by kernel_rfl) (by kernel_rfl) (by kernel_rfl) (fun _ _ _ h => h) (Or.inl ⟨by rfl, ?hh11024⟩) (by assumption) ?rh11024
  case hh11024 => (intro wS hSw; (try dsimp only at hSw); go_simp; try (with_reducible rfl))
  (try simp only [Act.put, List.setIfInBounds_toArray, List.set_cons_zero, List.set_cons_succ])
  refine take_d (i := 24) (v := ?vh11025) rfl (by rfl) (by kernel_rfl) (by kernel_rfl) (by kernel_rfl) (fun _ _ _ h => h) (Or.inl ⟨by rfl, ?hh11025⟩) (by assumption) ?rh11025
  case hh11025 => (intro wS hSw; (try dsimp only at hSw); go_simp; try (with_reducible rfl))
  (try simp only [Act.put, List.setIfInBounds_toArray, List.set_cons_zero, List.set_cons_succ])
  refine take_d (i := 25) (v := ?vh11026) rfl (by rfl) (by kernel_rfl) (by kernel_rfl) (by kernel_rfl) (fun _ _ _ h => h) (Or.inl ⟨by rfl, ?hh11026⟩) (by assumption) ?rh11026
  case hh11026 => (intro wS hSw; (try dsimp only at hSw); have hcq0 := cn hSw q3; have hcq1 := cn hSw r3; go_simp; try (with_reducible rfl))
  (try simp only [Act.put, List.setIfInBounds_toArray, List.set_cons_zero, List.set_cons_succ])
  refine take_d (i := 26) (v := ?vh11027) rfl (by rfl) (by kernel_rfl) (by kernel_rfl) (by kernel_rfl) (fun _ _ _ h => h) (Or.inl ⟨by rfl, ?hh11027⟩) (by assumption) ?rh11027
  case hh11027 => (intro wS hSw; (try dsimp only at hSw); go_simp; try (with_reducible rfl))
  (try simp only [Act.put, List.setIfInBounds_toArray, List.set_cons_zero, List.set_cons_succ])
  refine wpAnyH_ready (rs := [27]) (by kernel_rfl) (by simp) ?_
  refine AllReadyH.cons rfl (fun K hK => ?_) AllReadyH.nil
  go_simp
  go_at_call 46
  refine (HHj'.out _).mono ?_
  rintro e wh11028 ⟨rfl, bkh11028⟩
  have hBn := below_next hBk bkh11028
  clear hBk bkh11028
  have hBk := hBn
  clear hBn
  try go_simp
  refine hK.out _ _ ?_ (fun hHeld => ?_)
  · (try dsimp only); exact hBk
  clear hK K
  (try simp only [Act.put, List.setIfInBounds_toArray, List.set_cons_zero, List.set_cons_succ])
  refine take_d (i := 28) (v := ?vh11029) rfl (by rfl) (by kernel_rfl) (by kernel_rfl) (by kernel_rfl) (fun _ _ _ h => h) (Or.inl ⟨by rfl, ?hh11029⟩) (by assumption) ?rh11029
  case hh11029 => (intro wS hSw; (try dsimp only at hSw); go_simp; try (with_reducible rfl))
  (try simp only [Act.put, List.setIfInBounds_toArray, List.set_cons_zero, List.set_cons_succ])
  refine take_d (i := 29) (v := ?vh11030) rfl (by rfl) (by kernel_rfl) (by kernel_rfl) (by kernel_rfl) (fun _ _ _ h => h) (Or.inl ⟨by rfl, ?hh11030⟩) (by assumption) ?rh11030
  case hh11030 => (intro wS hSw; (try dsimp only at hSw); go_simp; try (with_reducible rfl))
  (try simp only [Act.put, List.setIfInBounds_toArray, List.set_cons_zero, List.set_cons_succ])
  refine take_d (i := 30) (v := ?vh11031) rfl (by rfl) (by kernel_rfl) (by kernel_rfl) (by kernel_rfl) (fun _ _ _ h => h) (Or.inl ⟨by rfl, ?hh11031⟩) (by assumption) ?rh11031
  case hh11031 => (intro wS hSw; (try dsimp only at hSw); go_simp; try (with_reducible rfl))
  (try simp only [Act.put, List.setIfInBounds_toArray, List.set_cons_zero, List.set_cons_succ])
  refine wpAnyH_done (by kernel_rfl) ?_ _
  have J2 := JI.out.next hBk
  clear JI hBk q0 r0 q1 r1 q2 r2 q3 r3 HHa' HHb' HHj' HHm2
  have I2 := J2.i
  clear J2
  have c1 := I2.cc.2.2.1
  have c2 := I2.cc.2.2.2
  have hl := I2.cc.1
  have hm1 := hmin'.out
  have hm2 := hmax'.out
  go_wp2_with fail
  refine wp_region_held_drew (S := (fun w' : World => Below wh11028.heap.size wh11028 w')) (by kernel_rfl) ?_ (fun hHeld => ?_)
  · (try dsimp only); first | (with_reducible exact below_dr _) | (with_reducible exact Below.refl _ _) | exact below_dr _
  have hBk := below_dr wh11028
  refine take_d (i := 0) (v := ?vk1101) rfl (by rfl) (by kernel_rfl) (by kernel_rfl) (by kernel_rfl) (fun _ _ _ h => h) (Or.inl ⟨by rfl, ?hk1101⟩) (by assumption) ?rk1101
  case hk1101 => (intro wS hSw; (try dsimp only at hSw); go_simp; try (with_reducible rfl))
  (try simp only [Act.put, List.setIfInBounds_toArray, List.set_cons_zero, List.set_cons_succ])
  refine take_d (i := 1) (v := ?vk1102) rfl (by rfl) (by kernel_rfl) (by kernel_rfl) (by kernel_rfl) (fun _ _ _ h => h) (Or.inl ⟨by rfl, ?hk1102⟩) (by assumption) ?rk1102
  case hk1102 => (intro wS hSw; (try dsimp only at hSw); have hcq0 := cn hSw c1; go_simp; try (with_reducible rfl))
  (try simp only [Act.put, List.setIfInBounds_toArray, List.set_cons_zero, List.set_cons_succ])
  refine take_d (i := 2) (v := ?vk1103) rfl (by rfl) (by kernel_rfl) (by kernel_rfl) (by kernel_rfl) (fun _ _ _ h => h) (Or.inl ⟨by rfl, ?hk1103⟩) (by assumption) ?rk1103
  case hk1103 => (intro wS hSw; (try dsimp only at hSw); go_simp; try (with_reducible rfl))
  (try simp only [Act.put, List.setIfInBounds_toArray, List.set_cons_zero, List.set_cons_succ])
  refine take_d (i := 3) (v := ?vk1104) rfl (by rfl) (by kernel_rfl) (by kernel_rfl) (by kernel_rfl) (fun _ _ _ h => h) (Or.inl ⟨by rfl, ?hk1104⟩) (by assumption) ?rk1104
  case hk1104 => (intro wS hSw; (try dsimp only at hSw); have hcq0 := cn hSw c2; go_simp; try (with_reducible rfl))
  (try simp only [Act.put, List.setIfInBounds_toArray, List.set_cons_zero, List.set_cons_succ])
  refine take_d (i := 4) (v := ?vk1105) rfl (by rfl) (by kernel_rfl) (by kernel_rfl) (by kernel_rfl) (fun _ _ _ h => h) (Or.inl ⟨by rfl, ?hk1105⟩) (by assumption) ?rk1105
  case hk1105 => (intro wS hSw; (try dsimp only at hSw); go_simp; try (with_reducible rfl))
  (try simp only [Act.put, List.setIfInBounds_toArray, List.set_cons_zero, List.set_cons_succ])
  refine take_d (i := 5) (v := ?vk1106) rfl (by rfl) (by kernel_rfl) (by kernel_rfl) (by kernel_rfl) (fun _ _ _ h => h) (Or.inl ⟨by rfl, ?hk1106⟩) (by assumption) ?rk1106
  case hk1106 => (intro wS hSw; (try dsimp only at hSw); go_simp; try (with_reducible rfl))
  (try simp only [Act.put, List.setIfInBounds_toArray, List.set_cons_zero, List.set_cons_succ])
  refine take_d (i := 6) (v := ?vk1107) rfl (by rfl) (by kernel_rfl) (by kernel_rfl) (by kernel_rfl) (fun _ _ _ h => h) (Or.inl ⟨by rfl, ?hk1107⟩) (by assumption) ?rk1107
  case hk1107 => (intro wS hSw; (try dsimp only at hSw); have hcq0 := cn hSw c1; go_simp; try (with_reducible rfl))
  (try simp only [Act.put, List.setIfInBounds_toArray, List.set_cons_zero, List.set_cons_succ])
  refine take_d (i := 7) (v := ?vk1108) rfl (by rfl) (by kernel_rfl) (by kernel_rfl) (by kernel_rfl) (fun _ _ _ h => h) (Or.inl ⟨by rfl, ?hk1108⟩) (by assumption) ?rk1108
  case hk1108 => (intro wS hSw; (try dsimp only at hSw); go_simp; try (with_reducible rfl))
  (try simp only [Act.put, List.setIfInBounds_toArray, List.set_cons_zero, List.set_cons_succ])
  refine take_d (i := 8) (v := ?vk1109) rfl (by rfl) (by kernel_rfl) (by kernel_rfl) (by kernel_rfl) (fun _ _ _ h => h) (Or.inl ⟨by rfl, ?hk1109⟩) (by assumption) ?rk1109
  case hk1109 => (intro wS hSw; (try dsimp only at hSw); have hcq0 := cn hSw c2; go_simp; try (with_reducible rfl))
  (try simp only [Act.put, List.setIfInBounds_toArray, List.set_cons_zero, List.set_cons_succ])
  refine take_d (i := 9) (v := ?vk11010) rfl (by rfl) (by kernel_rfl) (by kernel_rfl) (by kernel_rfl) (fun _ _ _ h => h) (Or.inl ⟨by rfl, ?hk11010⟩) (by assumption) ?rk11010
  case hk11010 => (intro wS hSw; (try dsimp only at hSw); go_simp; try (with_reducible rfl))
  (try simp only [Act.put, List.setIfInBounds_toArray, List.set_cons_zero, List.set_cons_succ])
  refine take_d (i := 10) (v := ?vk11011) rfl (by rfl) (by kernel_rfl) (by kernel_rfl) (by kernel_rfl) (fun _ _ _ h => h) (Or.inl ⟨by rfl, ?hk11011⟩) (by assumption) ?rk11011
  case hk11011 => (intro wS hSw; (try dsimp only at hSw); go_simp; try (with_reducible rfl))
  (try simp only [Act.put, List.setIfInBounds_toArray, List.set_cons_zero, List.set_cons_succ])
  refine take_d (i := 11) (v := ?vk11012) rfl (by rfl) (by kernel_rfl) (by kernel_rfl) (by kernel_rfl) (fun _ _ _ h => h) (Or.inl ⟨by rfl, ?hk11012⟩) (by assumption) ?rk11012
  case hk11012 => (intro wS hSw; (try dsimp only at hSw); go_simp; try (with_reducible rfl))
  (try simp only [Act.put, List.setIfInBounds_toArray, List.set_cons_zero, List.set_cons_succ])
  refine wpAnyH_done (by kernel_rfl) ?_ _
  replace I2 := I2.next hBk
  clear c1 c2 hl hm1 hm2 hBk
  generalize wh11028.drew = w8 at I2 ⊢
  go_wp2_with fail
  refine (HRg'.out _).mono ?_
  rintro e w9 ⟨rfl, z9⟩
  replace I2 := I2.next z9
  clear z9
  have hB := hid I2.bel
  clear I2
  go_wp2_with fail
  have G3 : TC (w9.alloc (.cells #[.int .u64 (ub R.1), .int .u64 (ub R.2)] 24)) w9.heap.size R := TC.new rfl
  have hB2 := hid (Below.alloc hB.out hB.out.size (.cells #[.int .u64 (ub R.1), .int .u64 (ub R.2)] 24))
  clear hB
  generalize w9.alloc (.cells #[.int .u64 (ub R.1), .int .u64 (ub R.2)] 24) = wx at G3 hB2 ⊢
  generalize w9.heap.size = g3 at G3 ⊢
  have hB := hB2
  clear hB2
  have s0 := G3.1
  have s1 := G3.2.1
  have s2 := G3.2.2
  go_wp2_with fail
  refine (HRl'.out _).mono ?_
  rintro e wa ⟨rfl, za⟩
  clear s0 s1 s2
  replace G3 := G3.below za
  have hB2 := hid (hB.out.trans (za.mono hB.out.size))
  clear hB za
  have hB := hB2
  clear hB2
  have s0 := G3.1
  have s1 := G3.2.1
  have s2 := G3.2.2
  go_wp2_with fail
  refine (HRh'.out _).mono ?_
  rintro e wb ⟨rfl, zb⟩
  clear s0 s1 s2
  replace G3 := G3.below zb
  have hB2 := hid (hB.out.trans (zb.mono hB.out.size))
  clear hB zb
  have hB := hB2
  clear hB2
  have s0 := G3.1
  have s1 := G3.2.1
  have s2 := G3.2.2
  by_cases hx1 : ub lo ≤ ub n0
  · by_cases hx2 : ub n0 ≤ ub hi
    · have HRx2 := hid (fun W => HRx'.out W ⟨hx1, hx2⟩)
      clear HRx'
      go_wp2_with fail
      refine (HRx2.out _).mono ?_
      rintro e wc ⟨rfl, zc⟩
      clear s0 s1 s2
      replace G3 := G3.below zc
      have hB2 := hid (hB.out.trans (zc.mono hB.out.size))
      clear hB zc
      have hB := hB2
      clear hB2
      have s0 := G3.1
      have s1 := G3.2.1
      have s2 := G3.2.2
      have e1 := hr1'.out
      have e2 := hr2'.out
      have e3 := hr3'.out
      clear hr1' hr2' hr3'
      by_cases hq : lo = hi
      · have e5 : (lo == hi) = true := by rw [hq]; exact beq_self_eq_true hi
        have e6 : (R.2 == 0#64) = true := by rw [← e2, e5]
        clear e2 hr4' hq
        go_wp2
        go_ret
        exact ⟨rfl, hB.out⟩
      · have e4 := hr4'.out hq
        have e5 : (lo == hi) = false := beq_eq_false_iff_ne.2 hq
        have e6 : (R.2 == 0#64) = false := by rw [← e2, e5]
        clear e2 hr4' hq
        go_wp2
        go_ret
        exact ⟨rfl, hB.out⟩
    · clear HRx'
      have e1 := hr1'.out
      have e2 := hr2'.out
      have e3 := hr3'.out
      clear hr1' hr2' hr3'
      by_cases hq : lo = hi
      · have e5 : (lo == hi) = true := by rw [hq]; exact beq_self_eq_true hi
        have e6 : (R.2 == 0#64) = true := by rw [← e2, e5]
        clear e2 hr4' hq
        go_wp2
        go_ret
        exact ⟨rfl, hB.out⟩
      · have e4 := hr4'.out hq
        have e5 : (lo == hi) = false := beq_eq_false_iff_ne.2 hq
        have e6 : (R.2 == 0#64) = false := by rw [← e2, e5]
        clear e2 hr4' hq
        go_wp2
        go_ret
        exact ⟨rfl, hB.out⟩
  · clear HRx'
    have e1 := hr1'.out
    have e2 := hr2'.out
    have e3 := hr3'.out
    clear hr1' hr2' hr3'
    by_cases hq : lo = hi
    · have e5 : (lo == hi) = true := by rw [hq]; exact beq_self_eq_true hi
      have e6 : (R.2 == 0#64) = true := by rw [← e2, e5]
      clear e2 hr4' hq
      go_wp2
      go_ret
      exact ⟨rfl, hB.out⟩
    · have e4 := hr4'.out hq
      have e5 : (lo == hi) = false := beq_eq_false_iff_ne.2 hq
      have e6 : (R.2 == 0#64) = false := by rw [← e2, e5]
      clear e2 hr4' hq
      go_wp2
      go_ret
      exact ⟨rfl, hB.out⟩
set_option maxRecDepth 100000 in
set_option maxHeartbeats 8000000 in
theorem holds_101 (a b : Tn) (n0 n1 n2 : B64) (w : World) (ha : tmay a = true) (hb : tmay b = true) (h1 : thas a n0 = false) (h2 : thas b n0 = true) (h3 : meetB a b = true) (lo hi : B64)
    (hmin : min (ub n1) (ub n2) = ub lo) (hmax : max (ub n1) (ub n2) = ub hi) (hlh : ub lo ≤ ub hi) : Calls Try.prog 10 #[tv a, tv b, .agg #[.int .u64 (ub n0), .int .u64 (ub n1), .int .u64 (ub n2)]] w fun e w' => e = .returned (.bool true) ∧ Below w.heap.size w w' := by
  have hmh := meet_has ha hb n0
  have hjh := join_has ha hb n0
  rw [h3, h1, h2] at hmh
  rw [h1, h2] at hjh
  have HAW := hid awake_true
  have HA := fun W => tMay_any a W
  have HB := fun W => tMay_any b W
  rw [ha] at HA
  rw [hb] at HB
  have HX1 := fun W => tMeet_any a b W
  rw [h3] at HX1
  have HX2 := fun W => tJoin_any a b W
  rw [show bothT a b (joinT a b) = joinT a b by unfold bothT; rw [ha, hb]; rfl, show bothE a b = 0 by unfold bothE; rw [ha, hb]; rfl] at HX2
  have HHa := fun W => tHas_any a n0 W
  have HHb := fun W => tHas_any b n0 W
  rw [h1] at HHa
  rw [h2] at HHb
  have HHm := fun W => tHas_any (meetT a b) n0 W
  have HHj := fun W => tHas_any (joinT a b) n0 W
  have HRg := fun W => tRange_any lo hi W
  rw [show rangeT lo hi = rgT lo hi by unfold rangeT; rw [if_neg (by omega)]; rfl, show rangeE lo hi = 0 by unfold rangeE; rw [if_neg (by omega)]] at HRg
  have HRl := fun W => tHas_any (rgT lo hi) lo W
  have HRh := fun W => tHas_any (rgT lo hi) hi W
  rw [rg_lo] at HRl
  rw [rg_hi] at HRh
  have HRx := fun W (h : ub lo ≤ ub n0 ∧ ub n0 ≤ ub hi) => (rg_mid h.1 h.2) ▸ tHas_any (rgT lo hi) n0 W
  generalize thas (meetT a b) n0 = vm at hmh HHm
  generalize thas (joinT a b) n0 = vj at hjh HHj
  obtain ⟨M, hM⟩ : ∃ M, M = (if true then meetT a b else t0) := ⟨_, rfl⟩
  rw [← hM] at HX1
  have hMm : true = true → M = meetT a b := fun h => by rw [hM, h]; rfl
  clear hM h1 h2 h3 ha hb
  have hmm : true = true → ∀ W, Calls Try.prog 46 #[tv M, .int .u64 (ub n0)] W fun e w' => e = .returned (.bool vm) ∧ Below W.heap.size W w' := fun h W => by rw [hMm h]; exact HHm W
  clear HHm hMm
  generalize joinT a b = J at HX2 HHj
  have hr1 := low_and (LL lo hi) (LL_le lo hi)
  rw [← rg_m] at hr1
  have hr2 := rg_eq lo hi
  have hr3 := rg_out lo hi
  have hr4 := fun h : lo ≠ hi => rg_big h
  generalize rgT lo hi = R at *
  unfold tv at HA HB HX1 HX2 HHa HHb HHj HRg HRl HRh HRx hmm ⊢
  have HA' := hid HA
  have HB' := hid HB
  have HX1' := hid HX1
  have HX2' := hid HX2
  have HHa' := hid HHa
  have HHb' := hid HHb
  have HHj' := hid HHj
  have HHm' := hid hmm
  have HRg' := hid HRg
  have HRl' := hid HRl
  have HRh' := hid HRh
  have HRx' := hid HRx
  have hmh' := hid hmh
  have hjh' := hid hjh
  have hr1' := hid hr1
  have hr2' := hid hr2
  have hr3' := hid hr3
  have hr4' := hid hr4
  have hmin' := hid hmin
  have hmax' := hid hmax
  clear HA HB HX1 HX2 HHa HHb HHj hmm HRg HRl HRh HRx hmh hjh hr1 hr2 hr3 hr4 hmin hmax
  go_enter Try.func10, Try.ntmps10
  go_wp2_with fail
  refine (HAW.out _).mono ?_
  rintro e w1 ⟨rfl, z1⟩
  have I : HoI w a b n0 n1 n2 w1 := ⟨((TC.new rfl).alloc _ |>.alloc _).below z1, ((TC.new (by simp)).alloc _).below z1, (AC.new (by simp)).below z1, ((((Below.refl _ _).alloc (Nat.le_refl _) _).alloc (by simp) _).alloc (by simp; omega) _).trans (z1.mono (by simp; omega))⟩
  clear z1
  have p0 := I.ca.1
  have q0 := I.ca.2.1
  have r0 := I.ca.2.2
  have p1 := I.cb.1
  have q1 := I.cb.2.1
  have r1 := I.cb.2.2
  go_wp2_with fail
  refine (HA'.out _).mono ?_
  rintro e w2 ⟨rfl, z2⟩
  clear p0 q0 r0 p1 q1 r1
  replace I := I.next z2
  clear z2
  have p0 := I.ca.1
  have q0 := I.ca.2.1
  have r0 := I.ca.2.2
  have p1 := I.cb.1
  have q1 := I.cb.2.1
  have r1 := I.cb.2.2
  go_wp2_with fail
  refine (HB'.out _).mono ?_
  rintro e w3 ⟨rfl, z3⟩
  clear p0 q0 r0 p1 q1 r1
  replace I := I.next z3
  clear z3
  have p0 := I.ca.1
  have q0 := I.ca.2.1
  have r0 := I.ca.2.2
  have p1 := I.cb.1
  have q1 := I.cb.2.1
  have r1 := I.cb.2.2
  go_wp2_with fail
  refine (HX1'.out _).mono ?_
  rintro e w4 ⟨rfl, z4⟩
  clear p0 q0 r0 p1 q1 r1
  replace I := I.next z4
  clear z4
  have p0 := I.ca.1
  have q0 := I.ca.2.1
  have r0 := I.ca.2.2
  have p1 := I.cb.1
  have q1 := I.cb.2.1
  have r1 := I.cb.2.2
  go_wp2_with fail
  refine (HX2'.out _).mono ?_
  rintro e w5 ⟨rfl, z5⟩
  clear p0 q0 r0 p1 q1 r1
  have G1 : TC w5 w4.heap.size M := (TC.new rfl).below z5
  replace I := (I.next ((Below.refl _ _).alloc (Nat.le_refl _) (.cells #[.int .u64 (ub M.1), .int .u64 (ub M.2)] 24))).next z5
  clear z5
  have p0 := I.ca.1
  have q0 := I.ca.2.1
  have r0 := I.ca.2.2
  have p1 := I.cb.1
  have q1 := I.cb.2.1
  have r1 := I.cb.2.2
  have x1 := I.cc.2.1
  have x2 := I.cc.1
  go_wp2_with fail
  clear p0 q0 r0 p1 q1 r1 x1 x2
  replace I := I.next ((Below.refl w5.heap.size w5).alloc (Nat.le_refl _) (.cells #[.int .u64 (ub J.1), .int .u64 (ub J.2)] 24))
  replace G1 := G1.alloc (.cells #[.int .u64 (ub J.1), .int .u64 (ub J.2)] 24)
  have G2 : TC (w5.alloc (.cells #[.int .u64 (ub J.1), .int .u64 (ub J.2)] 24)) w5.heap.size J := TC.new rfl
  generalize w5.alloc (.cells #[.int .u64 (ub J.1), .int .u64 (ub J.2)] 24) = w6 at I G1 G2 ⊢
  generalize w4.heap.size = g1 at G1 ⊢
  generalize w5.heap.size = g2 at G2 ⊢
  have JI := hid (show HoJ w a b n0 n1 n2 g1 M g2 J w6 from ⟨I, G1, G2⟩)
  have q0 := I.ca.2.1
  have r0 := I.ca.2.2
  have q1 := I.cb.2.1
  have r1 := I.cb.2.2
  have q2 := G1.2.1
  have r2 := G1.2.2
  have q3 := G2.2.1
  have r3 := G2.2.2
  clear I G1 G2
  obtain rfl : vm = false := by have := hmh'.out; simpa using this
  have HHm2 := hid (HHm'.out (by trivial))
  obtain rfl : vj = true := hjh'.out (by simp)
  clear hmh' hjh' HHm'
  refine wp_region_held_drew (S := (fun w' : World => Below w6.heap.size w6 w')) (by kernel_rfl) ?_ (fun hHeld => ?_)
  · (try dsimp only); first | (with_reducible exact below_dr _) | (with_reducible exact Below.refl _ _) | exact below_dr _
  have hBk := below_dr w6
  refine take_d (i := 0) (v := ?vh1011) rfl (by rfl) (by kernel_rfl) (by kernel_rfl) (by kernel_rfl) (fun _ _ _ h => h) (Or.inl ⟨by rfl, ?hh1011⟩) (by assumption) ?rh1011
  case hh1011 => (intro wS hSw; (try dsimp only at hSw); go_simp; try (with_reducible rfl))
  (try simp only [Act.put, List.setIfInBounds_toArray, List.set_cons_zero, List.set_cons_succ])
  refine take_d (i := 1) (v := ?vh1012) rfl (by rfl) (by kernel_rfl) (by kernel_rfl) (by kernel_rfl) (fun _ _ _ h => h) (Or.inl ⟨by rfl, ?hh1012⟩) (by assumption) ?rh1012
  case hh1012 => (intro wS hSw; (try dsimp only at hSw); go_simp; try (with_reducible rfl))
  (try simp only [Act.put, List.setIfInBounds_toArray, List.set_cons_zero, List.set_cons_succ])
  refine take_d (i := 2) (v := ?vh1013) rfl (by rfl) (by kernel_rfl) (by kernel_rfl) (by kernel_rfl) (fun _ _ _ h => h) (Or.inl ⟨by rfl, ?hh1013⟩) (by assumption) ?rh1013
  case hh1013 => (intro wS hSw; (try dsimp only at hSw); have hcq0 := cn hSw q2; have hcq1 := cn hSw r2; go_simp; try (with_reducible rfl))
  (try simp only [Act.put, List.setIfInBounds_toArray, List.set_cons_zero, List.set_cons_succ])
  refine take_d (i := 3) (v := ?vh1014) rfl (by rfl) (by kernel_rfl) (by kernel_rfl) (by kernel_rfl) (fun _ _ _ h => h) (Or.inl ⟨by rfl, ?hh1014⟩) (by assumption) ?rh1014
  case hh1014 => (intro wS hSw; (try dsimp only at hSw); go_simp; try (with_reducible rfl))
  (try simp only [Act.put, List.setIfInBounds_toArray, List.set_cons_zero, List.set_cons_succ])
  refine take_d (i := 6) (v := ?vh1015) rfl (by rfl) (by kernel_rfl) (by kernel_rfl) (by kernel_rfl) (fun _ _ _ h => h) (Or.inl ⟨by rfl, ?hh1015⟩) (by assumption) ?rh1015
  case hh1015 => (intro wS hSw; (try dsimp only at hSw); have hcq0 := cn hSw q0; have hcq1 := cn hSw r0; go_simp; try (with_reducible rfl))
  (try simp only [Act.put, List.setIfInBounds_toArray, List.set_cons_zero, List.set_cons_succ])
  refine take_d (i := 7) (v := ?vh1016) rfl (by rfl) (by kernel_rfl) (by kernel_rfl) (by kernel_rfl) (fun _ _ _ h => h) (Or.inl ⟨by rfl, ?hh1016⟩) (by assumption) ?rh1016
  case hh1016 => (intro wS hSw; (try dsimp only at hSw); go_simp; try (with_reducible rfl))
  (try simp only [Act.put, List.setIfInBounds_toArray, List.set_cons_zero, List.set_cons_succ])
  refine wpAnyH_ready (rs := [4]) (by kernel_rfl) (by simp) ?_
  refine AllReadyH.cons rfl (fun K hK => ?_) AllReadyH.nil
  go_simp
  go_at_call 46
  refine (HHm2.out _).mono ?_
  rintro e wh1017 ⟨rfl, bkh1017⟩
  have hBn := below_next hBk bkh1017
  clear hBk bkh1017
  have hBk := hBn
  clear hBn
  try go_simp
  refine hK.out _ _ ?_ (fun hHeld => ?_)
  · (try dsimp only); exact hBk
  clear hK K
  (try simp only [Act.put, List.setIfInBounds_toArray, List.set_cons_zero, List.set_cons_succ])
  refine take_d (i := 5) (v := ?vh1018) rfl (by rfl) (by kernel_rfl) (by kernel_rfl) (by kernel_rfl) (fun _ _ _ h => h) (Or.inl ⟨by rfl, ?hh1018⟩) (by assumption) ?rh1018
  case hh1018 => (intro wS hSw; (try dsimp only at hSw); go_simp; try (with_reducible rfl))
  (try simp only [Act.put, List.setIfInBounds_toArray, List.set_cons_zero, List.set_cons_succ])
  refine wpAnyH_ready (rs := [8]) (by kernel_rfl) (by simp) ?_
  refine AllReadyH.cons rfl (fun K hK => ?_) AllReadyH.nil
  go_simp
  go_at_call 46
  refine (HHa'.out _).mono ?_
  rintro e wh1019 ⟨rfl, bkh1019⟩
  have hBn := below_next hBk bkh1019
  clear hBk bkh1019
  have hBk := hBn
  clear hBn
  try go_simp
  refine hK.out _ _ ?_ (fun hHeld => ?_)
  · (try dsimp only); exact hBk
  clear hK K
  (try simp only [Act.put, List.setIfInBounds_toArray, List.set_cons_zero, List.set_cons_succ])
  refine take_d (i := 9) (v := ?vh10110) rfl (by rfl) (by kernel_rfl) (by kernel_rfl) (by kernel_rfl) (fun _ _ _ h => h) (Or.inl ⟨by rfl, ?hh10110⟩) (by assumption) ?rh10110
  case hh10110 => (intro wS hSw; (try dsimp only at hSw); go_simp; try (with_reducible rfl))
  (try simp only [Act.put, List.setIfInBounds_toArray, List.set_cons_zero, List.set_cons_succ])
  refine take_d (i := 10) (v := undef) rfl (by rfl) (by kernel_rfl) (by kernel_rfl) (by kernel_rfl) (fun _ _ _ h => h) (Or.inr ⟨by rfl, rfl⟩) (by assumption) ?rh10111
  (try simp only [Act.put, List.setIfInBounds_toArray, List.set_cons_zero, List.set_cons_succ])
  refine take_d (i := 11) (v := undef) rfl (by rfl) (by kernel_rfl) (by kernel_rfl) (by kernel_rfl) (fun _ _ _ h => h) (Or.inr ⟨by rfl, rfl⟩) (by assumption) ?rh10112
  (try simp only [Act.put, List.setIfInBounds_toArray, List.set_cons_zero, List.set_cons_succ])
  refine take_d (i := 12) (v := undef) rfl (by rfl) (by kernel_rfl) (by kernel_rfl) (by kernel_rfl) (fun _ _ _ h => h) (Or.inr ⟨by rfl, rfl⟩) (by assumption) ?rh10113
  (try simp only [Act.put, List.setIfInBounds_toArray, List.set_cons_zero, List.set_cons_succ])
  refine take_d (i := 13) (v := ?vh10114) rfl (by rfl) (by kernel_rfl) (by kernel_rfl) (by kernel_rfl) (fun _ _ _ h => h) (Or.inl ⟨by rfl, ?hh10114⟩) (by assumption) ?rh10114
  case hh10114 => (intro wS hSw; (try dsimp only at hSw); go_simp; try (with_reducible rfl))
  (try simp only [Act.put, List.setIfInBounds_toArray, List.set_cons_zero, List.set_cons_succ])
  refine take_d (i := 14) (v := ?vh10115) rfl (by rfl) (by kernel_rfl) (by kernel_rfl) (by kernel_rfl) (fun _ _ _ h => h) (Or.inl ⟨by rfl, ?hh10115⟩) (by assumption) ?rh10115
  case hh10115 => (intro wS hSw; (try dsimp only at hSw); go_simp; try (with_reducible rfl))
  (try simp only [Act.put, List.setIfInBounds_toArray, List.set_cons_zero, List.set_cons_succ])
  refine take_d (i := 15) (v := ?vh10116) rfl (by rfl) (by kernel_rfl) (by kernel_rfl) (by kernel_rfl) (fun _ _ _ h => h) (Or.inl ⟨by rfl, ?hh10116⟩) (by assumption) ?rh10116
  case hh10116 => (intro wS hSw; (try dsimp only at hSw); go_simp; try (with_reducible rfl))
  (try simp only [Act.put, List.setIfInBounds_toArray, List.set_cons_zero, List.set_cons_succ])
  refine take_d (i := 16) (v := ?vh10117) rfl (by rfl) (by kernel_rfl) (by kernel_rfl) (by kernel_rfl) (fun _ _ _ h => h) (Or.inl ⟨by rfl, ?hh10117⟩) (by assumption) ?rh10117
  case hh10117 => (intro wS hSw; (try dsimp only at hSw); have hcq0 := cn hSw q0; have hcq1 := cn hSw r0; go_simp; try (with_reducible rfl))
  (try simp only [Act.put, List.setIfInBounds_toArray, List.set_cons_zero, List.set_cons_succ])
  refine take_d (i := 17) (v := ?vh10118) rfl (by rfl) (by kernel_rfl) (by kernel_rfl) (by kernel_rfl) (fun _ _ _ h => h) (Or.inl ⟨by rfl, ?hh10118⟩) (by assumption) ?rh10118
  case hh10118 => (intro wS hSw; (try dsimp only at hSw); go_simp; try (with_reducible rfl))
  (try simp only [Act.put, List.setIfInBounds_toArray, List.set_cons_zero, List.set_cons_succ])
  refine wpAnyH_ready (rs := [18]) (by kernel_rfl) (by simp) ?_
  refine AllReadyH.cons rfl (fun K hK => ?_) AllReadyH.nil
  go_simp
  go_at_call 46
  refine (HHa'.out _).mono ?_
  rintro e wh10119 ⟨rfl, bkh10119⟩
  have hBn := below_next hBk bkh10119
  clear hBk bkh10119
  have hBk := hBn
  clear hBn
  try go_simp
  refine hK.out _ _ ?_ (fun hHeld => ?_)
  · (try dsimp only); exact hBk
  clear hK K
  (try simp only [Act.put, List.setIfInBounds_toArray, List.set_cons_zero, List.set_cons_succ])
  refine take_d (i := 19) (v := ?vh10120) rfl (by rfl) (by kernel_rfl) (by kernel_rfl) (by kernel_rfl) (fun _ _ _ h => h) (Or.inl ⟨by rfl, ?hh10120⟩) (by assumption) ?rh10120
  case hh10120 => (intro wS hSw; (try dsimp only at hSw); go_simp; try (with_reducible rfl))
  (try simp only [Act.put, List.setIfInBounds_toArray, List.set_cons_zero, List.set_cons_succ])
  refine take_d (i := 20) (v := ?vh10121) rfl (by rfl) (by kernel_rfl) (by kernel_rfl) (by kernel_rfl) (fun _ _ _ h => h) (Or.inl ⟨by rfl, ?hh10121⟩) (by assumption) ?rh10121
  case hh10121 => (intro wS hSw; (try dsimp only at hSw); have hcq0 := cn hSw q1; have hcq1 := cn hSw r1; go_simp; try (with_reducible rfl))
  (try simp only [Act.put, List.setIfInBounds_toArray, List.set_cons_zero, List.set_cons_succ])
  refine take_d (i := 21) (v := ?vh10122) rfl (by rfl) (by kernel_rfl) (by kernel_rfl) (by kernel_rfl) (fun _ _ _ h => h) (Or.inl ⟨by rfl, ?hh10122⟩) (by assumption) ?rh10122
  case hh10122 => (intro wS hSw; (try dsimp only at hSw); go_simp; try (with_reducible rfl))
  (try simp only [Act.put, List.setIfInBounds_toArray, List.set_cons_zero, List.set_cons_succ])
  refine wpAnyH_ready (rs := [22]) (by kernel_rfl) (by simp) ?_
  refine AllReadyH.cons rfl (fun K hK => ?_) AllReadyH.nil
  go_simp
  go_at_call 46
  refine (HHb'.out _).mono ?_
  rintro e wh10123 ⟨rfl, bkh10123⟩
  have hBn := below_next hBk bkh10123
  clear hBk bkh10123
  have hBk := hBn
  clear hBn
  try go_simp
  refine hK.out _ _ ?_ (fun hHeld => ?_)
  · (try dsimp only); exact hBk
  clear hK K
  (try simp only [Act.put, List.setIfInBounds_toArray, List.set_cons_zero, List.set_cons_succ])
  refine take_d (i := 23) (v := ?vh10124) rfl (by rfl) (by kernel_rfl) (by kernel_rfl) (by kernel_rfl) (fun _ _ _ h => h) (Or.inl ⟨by rfl, ?hh10124⟩) (by assumption) ?rh10124
  case hh10124 => (intro wS hSw; (try dsimp only at hSw); go_simp; try (with_reducible rfl))
  (try simp only [Act.put, List.setIfInBounds_toArray, List.set_cons_zero, List.set_cons_succ])
  refine take_d (i := 24) (v := ?vh10125) rfl (by rfl) (by kernel_rfl) (by kernel_rfl) (by kernel_rfl) (fun _ _ _ h => h) (Or.inl ⟨by rfl, ?hh10125⟩) (by assumption) ?rh10125
  case hh10125 => (intro wS hSw; (try dsimp only at hSw); go_simp; try (with_reducible rfl))
  (try simp only [Act.put, List.setIfInBounds_toArray, List.set_cons_zero, List.set_cons_succ])
  refine take_d (i := 25) (v := ?vh10126) rfl (by rfl) (by kernel_rfl) (by kernel_rfl) (by kernel_rfl) (fun _ _ _ h => h) (Or.inl ⟨by rfl, ?hh10126⟩) (by assumption) ?rh10126
  case hh10126 => (intro wS hSw; (try dsimp only at hSw); have hcq0 := cn hSw q3; have hcq1 := cn hSw r3; go_simp; try (with_reducible rfl))
  (try simp only [Act.put, List.setIfInBounds_toArray, List.set_cons_zero, List.set_cons_succ])
  refine take_d (i := 26) (v := ?vh10127) rfl (by rfl) (by kernel_rfl) (by kernel_rfl) (by kernel_rfl) (fun _ _ _ h => h) (Or.inl ⟨by rfl, ?hh10127⟩) (by assumption) ?rh10127
  case hh10127 => (intro wS hSw; (try dsimp only at hSw); go_simp; try (with_reducible rfl))
  (try simp only [Act.put, List.setIfInBounds_toArray, List.set_cons_zero, List.set_cons_succ])
  refine wpAnyH_ready (rs := [27]) (by kernel_rfl) (by simp) ?_
  refine AllReadyH.cons rfl (fun K hK => ?_) AllReadyH.nil
  go_simp
  go_at_call 46
  refine (HHj'.out _).mono ?_
  rintro e wh10128 ⟨rfl, bkh10128⟩
  have hBn := below_next hBk bkh10128
  clear hBk bkh10128
  have hBk := hBn
  clear hBn
  try go_simp
  refine hK.out _ _ ?_ (fun hHeld => ?_)
  · (try dsimp only); exact hBk
  clear hK K
  (try simp only [Act.put, List.setIfInBounds_toArray, List.set_cons_zero, List.set_cons_succ])
  refine take_d (i := 28) (v := ?vh10129) rfl (by rfl) (by kernel_rfl) (by kernel_rfl) (by kernel_rfl) (fun _ _ _ h => h) (Or.inl ⟨by rfl, ?hh10129⟩) (by assumption) ?rh10129
  case hh10129 => (intro wS hSw; (try dsimp only at hSw); go_simp; try (with_reducible rfl))
  (try simp only [Act.put, List.setIfInBounds_toArray, List.set_cons_zero, List.set_cons_succ])
  refine take_d (i := 29) (v := ?vh10130) rfl (by rfl) (by kernel_rfl) (by kernel_rfl) (by kernel_rfl) (fun _ _ _ h => h) (Or.inl ⟨by rfl, ?hh10130⟩) (by assumption) ?rh10130
  case hh10130 => (intro wS hSw; (try dsimp only at hSw); go_simp; try (with_reducible rfl))
  (try simp only [Act.put, List.setIfInBounds_toArray, List.set_cons_zero, List.set_cons_succ])
  refine take_d (i := 30) (v := ?vh10131) rfl (by rfl) (by kernel_rfl) (by kernel_rfl) (by kernel_rfl) (fun _ _ _ h => h) (Or.inl ⟨by rfl, ?hh10131⟩) (by assumption) ?rh10131
  case hh10131 => (intro wS hSw; (try dsimp only at hSw); go_simp; try (with_reducible rfl))
  (try simp only [Act.put, List.setIfInBounds_toArray, List.set_cons_zero, List.set_cons_succ])
  refine wpAnyH_done (by kernel_rfl) ?_ _
  have J2 := JI.out.next hBk
  clear JI hBk q0 r0 q1 r1 q2 r2 q3 r3 HHa' HHb' HHj' HHm2
  have I2 := J2.i
  clear J2
  have c1 := I2.cc.2.2.1
  have c2 := I2.cc.2.2.2
  have hl := I2.cc.1
  have hm1 := hmin'.out
  have hm2 := hmax'.out
  go_wp2_with fail
  refine wp_region_held_drew (S := (fun w' : World => Below wh10128.heap.size wh10128 w')) (by kernel_rfl) ?_ (fun hHeld => ?_)
  · (try dsimp only); first | (with_reducible exact below_dr _) | (with_reducible exact Below.refl _ _) | exact below_dr _
  have hBk := below_dr wh10128
  refine take_d (i := 0) (v := ?vk1011) rfl (by rfl) (by kernel_rfl) (by kernel_rfl) (by kernel_rfl) (fun _ _ _ h => h) (Or.inl ⟨by rfl, ?hk1011⟩) (by assumption) ?rk1011
  case hk1011 => (intro wS hSw; (try dsimp only at hSw); go_simp; try (with_reducible rfl))
  (try simp only [Act.put, List.setIfInBounds_toArray, List.set_cons_zero, List.set_cons_succ])
  refine take_d (i := 1) (v := ?vk1012) rfl (by rfl) (by kernel_rfl) (by kernel_rfl) (by kernel_rfl) (fun _ _ _ h => h) (Or.inl ⟨by rfl, ?hk1012⟩) (by assumption) ?rk1012
  case hk1012 => (intro wS hSw; (try dsimp only at hSw); have hcq0 := cn hSw c1; go_simp; try (with_reducible rfl))
  (try simp only [Act.put, List.setIfInBounds_toArray, List.set_cons_zero, List.set_cons_succ])
  refine take_d (i := 2) (v := ?vk1013) rfl (by rfl) (by kernel_rfl) (by kernel_rfl) (by kernel_rfl) (fun _ _ _ h => h) (Or.inl ⟨by rfl, ?hk1013⟩) (by assumption) ?rk1013
  case hk1013 => (intro wS hSw; (try dsimp only at hSw); go_simp; try (with_reducible rfl))
  (try simp only [Act.put, List.setIfInBounds_toArray, List.set_cons_zero, List.set_cons_succ])
  refine take_d (i := 3) (v := ?vk1014) rfl (by rfl) (by kernel_rfl) (by kernel_rfl) (by kernel_rfl) (fun _ _ _ h => h) (Or.inl ⟨by rfl, ?hk1014⟩) (by assumption) ?rk1014
  case hk1014 => (intro wS hSw; (try dsimp only at hSw); have hcq0 := cn hSw c2; go_simp; try (with_reducible rfl))
  (try simp only [Act.put, List.setIfInBounds_toArray, List.set_cons_zero, List.set_cons_succ])
  refine take_d (i := 4) (v := ?vk1015) rfl (by rfl) (by kernel_rfl) (by kernel_rfl) (by kernel_rfl) (fun _ _ _ h => h) (Or.inl ⟨by rfl, ?hk1015⟩) (by assumption) ?rk1015
  case hk1015 => (intro wS hSw; (try dsimp only at hSw); go_simp; try (with_reducible rfl))
  (try simp only [Act.put, List.setIfInBounds_toArray, List.set_cons_zero, List.set_cons_succ])
  refine take_d (i := 5) (v := ?vk1016) rfl (by rfl) (by kernel_rfl) (by kernel_rfl) (by kernel_rfl) (fun _ _ _ h => h) (Or.inl ⟨by rfl, ?hk1016⟩) (by assumption) ?rk1016
  case hk1016 => (intro wS hSw; (try dsimp only at hSw); go_simp; try (with_reducible rfl))
  (try simp only [Act.put, List.setIfInBounds_toArray, List.set_cons_zero, List.set_cons_succ])
  refine take_d (i := 6) (v := ?vk1017) rfl (by rfl) (by kernel_rfl) (by kernel_rfl) (by kernel_rfl) (fun _ _ _ h => h) (Or.inl ⟨by rfl, ?hk1017⟩) (by assumption) ?rk1017
  case hk1017 => (intro wS hSw; (try dsimp only at hSw); have hcq0 := cn hSw c1; go_simp; try (with_reducible rfl))
  (try simp only [Act.put, List.setIfInBounds_toArray, List.set_cons_zero, List.set_cons_succ])
  refine take_d (i := 7) (v := ?vk1018) rfl (by rfl) (by kernel_rfl) (by kernel_rfl) (by kernel_rfl) (fun _ _ _ h => h) (Or.inl ⟨by rfl, ?hk1018⟩) (by assumption) ?rk1018
  case hk1018 => (intro wS hSw; (try dsimp only at hSw); go_simp; try (with_reducible rfl))
  (try simp only [Act.put, List.setIfInBounds_toArray, List.set_cons_zero, List.set_cons_succ])
  refine take_d (i := 8) (v := ?vk1019) rfl (by rfl) (by kernel_rfl) (by kernel_rfl) (by kernel_rfl) (fun _ _ _ h => h) (Or.inl ⟨by rfl, ?hk1019⟩) (by assumption) ?rk1019
  case hk1019 => (intro wS hSw; (try dsimp only at hSw); have hcq0 := cn hSw c2; go_simp; try (with_reducible rfl))
  (try simp only [Act.put, List.setIfInBounds_toArray, List.set_cons_zero, List.set_cons_succ])
  refine take_d (i := 9) (v := ?vk10110) rfl (by rfl) (by kernel_rfl) (by kernel_rfl) (by kernel_rfl) (fun _ _ _ h => h) (Or.inl ⟨by rfl, ?hk10110⟩) (by assumption) ?rk10110
  case hk10110 => (intro wS hSw; (try dsimp only at hSw); go_simp; try (with_reducible rfl))
  (try simp only [Act.put, List.setIfInBounds_toArray, List.set_cons_zero, List.set_cons_succ])
  refine take_d (i := 10) (v := ?vk10111) rfl (by rfl) (by kernel_rfl) (by kernel_rfl) (by kernel_rfl) (fun _ _ _ h => h) (Or.inl ⟨by rfl, ?hk10111⟩) (by assumption) ?rk10111
  case hk10111 => (intro wS hSw; (try dsimp only at hSw); go_simp; try (with_reducible rfl))
  (try simp only [Act.put, List.setIfInBounds_toArray, List.set_cons_zero, List.set_cons_succ])
  refine take_d (i := 11) (v := ?vk10112) rfl (by rfl) (by kernel_rfl) (by kernel_rfl) (by kernel_rfl) (fun _ _ _ h => h) (Or.inl ⟨by rfl, ?hk10112⟩) (by assumption) ?rk10112
  case hk10112 => (intro wS hSw; (try dsimp only at hSw); go_simp; try (with_reducible rfl))
  (try simp only [Act.put, List.setIfInBounds_toArray, List.set_cons_zero, List.set_cons_succ])
  refine wpAnyH_done (by kernel_rfl) ?_ _
  replace I2 := I2.next hBk
  clear c1 c2 hl hm1 hm2 hBk
  generalize wh10128.drew = w8 at I2 ⊢
  go_wp2_with fail
  refine (HRg'.out _).mono ?_
  rintro e w9 ⟨rfl, z9⟩
  replace I2 := I2.next z9
  clear z9
  have hB := hid I2.bel
  clear I2
  go_wp2_with fail
  have G3 : TC (w9.alloc (.cells #[.int .u64 (ub R.1), .int .u64 (ub R.2)] 24)) w9.heap.size R := TC.new rfl
  have hB2 := hid (Below.alloc hB.out hB.out.size (.cells #[.int .u64 (ub R.1), .int .u64 (ub R.2)] 24))
  clear hB
  generalize w9.alloc (.cells #[.int .u64 (ub R.1), .int .u64 (ub R.2)] 24) = wx at G3 hB2 ⊢
  generalize w9.heap.size = g3 at G3 ⊢
  have hB := hB2
  clear hB2
  have s0 := G3.1
  have s1 := G3.2.1
  have s2 := G3.2.2
  go_wp2_with fail
  refine (HRl'.out _).mono ?_
  rintro e wa ⟨rfl, za⟩
  clear s0 s1 s2
  replace G3 := G3.below za
  have hB2 := hid (hB.out.trans (za.mono hB.out.size))
  clear hB za
  have hB := hB2
  clear hB2
  have s0 := G3.1
  have s1 := G3.2.1
  have s2 := G3.2.2
  go_wp2_with fail
  refine (HRh'.out _).mono ?_
  rintro e wb ⟨rfl, zb⟩
  clear s0 s1 s2
  replace G3 := G3.below zb
  have hB2 := hid (hB.out.trans (zb.mono hB.out.size))
  clear hB zb
  have hB := hB2
  clear hB2
  have s0 := G3.1
  have s1 := G3.2.1
  have s2 := G3.2.2
  by_cases hx1 : ub lo ≤ ub n0
  · by_cases hx2 : ub n0 ≤ ub hi
    · have HRx2 := hid (fun W => HRx'.out W ⟨hx1, hx2⟩)
      clear HRx'
      go_wp2_with fail
      refine (HRx2.out _).mono ?_
      rintro e wc ⟨rfl, zc⟩
      clear s0 s1 s2
      replace G3 := G3.below zc
      have hB2 := hid (hB.out.trans (zc.mono hB.out.size))
      clear hB zc
      have hB := hB2
      clear hB2
      have s0 := G3.1
      have s1 := G3.2.1
      have s2 := G3.2.2
      have e1 := hr1'.out
      have e2 := hr2'.out
      have e3 := hr3'.out
      clear hr1' hr2' hr3'
      by_cases hq : lo = hi
      · have e5 : (lo == hi) = true := by rw [hq]; exact beq_self_eq_true hi
        have e6 : (R.2 == 0#64) = true := by rw [← e2, e5]
        clear e2 hr4' hq
        go_wp2
        go_ret
        exact ⟨rfl, hB.out⟩
      · have e4 := hr4'.out hq
        have e5 : (lo == hi) = false := beq_eq_false_iff_ne.2 hq
        have e6 : (R.2 == 0#64) = false := by rw [← e2, e5]
        clear e2 hr4' hq
        go_wp2
        go_ret
        exact ⟨rfl, hB.out⟩
    · clear HRx'
      have e1 := hr1'.out
      have e2 := hr2'.out
      have e3 := hr3'.out
      clear hr1' hr2' hr3'
      by_cases hq : lo = hi
      · have e5 : (lo == hi) = true := by rw [hq]; exact beq_self_eq_true hi
        have e6 : (R.2 == 0#64) = true := by rw [← e2, e5]
        clear e2 hr4' hq
        go_wp2
        go_ret
        exact ⟨rfl, hB.out⟩
      · have e4 := hr4'.out hq
        have e5 : (lo == hi) = false := beq_eq_false_iff_ne.2 hq
        have e6 : (R.2 == 0#64) = false := by rw [← e2, e5]
        clear e2 hr4' hq
        go_wp2
        go_ret
        exact ⟨rfl, hB.out⟩
  · clear HRx'
    have e1 := hr1'.out
    have e2 := hr2'.out
    have e3 := hr3'.out
    clear hr1' hr2' hr3'
    by_cases hq : lo = hi
    · have e5 : (lo == hi) = true := by rw [hq]; exact beq_self_eq_true hi
      have e6 : (R.2 == 0#64) = true := by rw [← e2, e5]
      clear e2 hr4' hq
      go_wp2
      go_ret
      exact ⟨rfl, hB.out⟩
    · have e4 := hr4'.out hq
      have e5 : (lo == hi) = false := beq_eq_false_iff_ne.2 hq
      have e6 : (R.2 == 0#64) = false := by rw [← e2, e5]
      clear e2 hr4' hq
      go_wp2
      go_ret
      exact ⟨rfl, hB.out⟩
set_option maxRecDepth 100000 in
set_option maxHeartbeats 8000000 in
theorem holds_100 (a b : Tn) (n0 n1 n2 : B64) (w : World) (ha : tmay a = true) (hb : tmay b = true) (h1 : thas a n0 = false) (h2 : thas b n0 = false) (h3 : meetB a b = true) (lo hi : B64)
    (hmin : min (ub n1) (ub n2) = ub lo) (hmax : max (ub n1) (ub n2) = ub hi) (hlh : ub lo ≤ ub hi) : Calls Try.prog 10 #[tv a, tv b, .agg #[.int .u64 (ub n0), .int .u64 (ub n1), .int .u64 (ub n2)]] w fun e w' => e = .returned (.bool true) ∧ Below w.heap.size w w' := by
  have hmh := meet_has ha hb n0
  have hjh := join_has ha hb n0
  rw [h3, h1, h2] at hmh
  rw [h1, h2] at hjh
  have HAW := hid awake_true
  have HA := fun W => tMay_any a W
  have HB := fun W => tMay_any b W
  rw [ha] at HA
  rw [hb] at HB
  have HX1 := fun W => tMeet_any a b W
  rw [h3] at HX1
  have HX2 := fun W => tJoin_any a b W
  rw [show bothT a b (joinT a b) = joinT a b by unfold bothT; rw [ha, hb]; rfl, show bothE a b = 0 by unfold bothE; rw [ha, hb]; rfl] at HX2
  have HHa := fun W => tHas_any a n0 W
  have HHb := fun W => tHas_any b n0 W
  rw [h1] at HHa
  rw [h2] at HHb
  have HHm := fun W => tHas_any (meetT a b) n0 W
  have HHj := fun W => tHas_any (joinT a b) n0 W
  have HRg := fun W => tRange_any lo hi W
  rw [show rangeT lo hi = rgT lo hi by unfold rangeT; rw [if_neg (by omega)]; rfl, show rangeE lo hi = 0 by unfold rangeE; rw [if_neg (by omega)]] at HRg
  have HRl := fun W => tHas_any (rgT lo hi) lo W
  have HRh := fun W => tHas_any (rgT lo hi) hi W
  rw [rg_lo] at HRl
  rw [rg_hi] at HRh
  have HRx := fun W (h : ub lo ≤ ub n0 ∧ ub n0 ≤ ub hi) => (rg_mid h.1 h.2) ▸ tHas_any (rgT lo hi) n0 W
  generalize thas (meetT a b) n0 = vm at hmh HHm
  generalize thas (joinT a b) n0 = vj at hjh HHj
  obtain ⟨M, hM⟩ : ∃ M, M = (if true then meetT a b else t0) := ⟨_, rfl⟩
  rw [← hM] at HX1
  have hMm : true = true → M = meetT a b := fun h => by rw [hM, h]; rfl
  clear hM h1 h2 h3 ha hb
  have hmm : true = true → ∀ W, Calls Try.prog 46 #[tv M, .int .u64 (ub n0)] W fun e w' => e = .returned (.bool vm) ∧ Below W.heap.size W w' := fun h W => by rw [hMm h]; exact HHm W
  clear HHm hMm
  generalize joinT a b = J at HX2 HHj
  have hr1 := low_and (LL lo hi) (LL_le lo hi)
  rw [← rg_m] at hr1
  have hr2 := rg_eq lo hi
  have hr3 := rg_out lo hi
  have hr4 := fun h : lo ≠ hi => rg_big h
  generalize rgT lo hi = R at *
  unfold tv at HA HB HX1 HX2 HHa HHb HHj HRg HRl HRh HRx hmm ⊢
  have HA' := hid HA
  have HB' := hid HB
  have HX1' := hid HX1
  have HX2' := hid HX2
  have HHa' := hid HHa
  have HHb' := hid HHb
  have HHj' := hid HHj
  have HHm' := hid hmm
  have HRg' := hid HRg
  have HRl' := hid HRl
  have HRh' := hid HRh
  have HRx' := hid HRx
  have hmh' := hid hmh
  have hjh' := hid hjh
  have hr1' := hid hr1
  have hr2' := hid hr2
  have hr3' := hid hr3
  have hr4' := hid hr4
  have hmin' := hid hmin
  have hmax' := hid hmax
  clear HA HB HX1 HX2 HHa HHb HHj hmm HRg HRl HRh HRx hmh hjh hr1 hr2 hr3 hr4 hmin hmax
  go_enter Try.func10, Try.ntmps10
  go_wp2_with fail
  refine (HAW.out _).mono ?_
  rintro e w1 ⟨rfl, z1⟩
  have I : HoI w a b n0 n1 n2 w1 := ⟨((TC.new rfl).alloc _ |>.alloc _).below z1, ((TC.new (by simp)).alloc _).below z1, (AC.new (by simp)).below z1, ((((Below.refl _ _).alloc (Nat.le_refl _) _).alloc (by simp) _).alloc (by simp; omega) _).trans (z1.mono (by simp; omega))⟩
  clear z1
  have p0 := I.ca.1
  have q0 := I.ca.2.1
  have r0 := I.ca.2.2
  have p1 := I.cb.1
  have q1 := I.cb.2.1
  have r1 := I.cb.2.2
  go_wp2_with fail
  refine (HA'.out _).mono ?_
  rintro e w2 ⟨rfl, z2⟩
  clear p0 q0 r0 p1 q1 r1
  replace I := I.next z2
  clear z2
  have p0 := I.ca.1
  have q0 := I.ca.2.1
  have r0 := I.ca.2.2
  have p1 := I.cb.1
  have q1 := I.cb.2.1
  have r1 := I.cb.2.2
  go_wp2_with fail
  refine (HB'.out _).mono ?_
  rintro e w3 ⟨rfl, z3⟩
  clear p0 q0 r0 p1 q1 r1
  replace I := I.next z3
  clear z3
  have p0 := I.ca.1
  have q0 := I.ca.2.1
  have r0 := I.ca.2.2
  have p1 := I.cb.1
  have q1 := I.cb.2.1
  have r1 := I.cb.2.2
  go_wp2_with fail
  refine (HX1'.out _).mono ?_
  rintro e w4 ⟨rfl, z4⟩
  clear p0 q0 r0 p1 q1 r1
  replace I := I.next z4
  clear z4
  have p0 := I.ca.1
  have q0 := I.ca.2.1
  have r0 := I.ca.2.2
  have p1 := I.cb.1
  have q1 := I.cb.2.1
  have r1 := I.cb.2.2
  go_wp2_with fail
  refine (HX2'.out _).mono ?_
  rintro e w5 ⟨rfl, z5⟩
  clear p0 q0 r0 p1 q1 r1
  have G1 : TC w5 w4.heap.size M := (TC.new rfl).below z5
  replace I := (I.next ((Below.refl _ _).alloc (Nat.le_refl _) (.cells #[.int .u64 (ub M.1), .int .u64 (ub M.2)] 24))).next z5
  clear z5
  have p0 := I.ca.1
  have q0 := I.ca.2.1
  have r0 := I.ca.2.2
  have p1 := I.cb.1
  have q1 := I.cb.2.1
  have r1 := I.cb.2.2
  have x1 := I.cc.2.1
  have x2 := I.cc.1
  go_wp2_with fail
  clear p0 q0 r0 p1 q1 r1 x1 x2
  replace I := I.next ((Below.refl w5.heap.size w5).alloc (Nat.le_refl _) (.cells #[.int .u64 (ub J.1), .int .u64 (ub J.2)] 24))
  replace G1 := G1.alloc (.cells #[.int .u64 (ub J.1), .int .u64 (ub J.2)] 24)
  have G2 : TC (w5.alloc (.cells #[.int .u64 (ub J.1), .int .u64 (ub J.2)] 24)) w5.heap.size J := TC.new rfl
  generalize w5.alloc (.cells #[.int .u64 (ub J.1), .int .u64 (ub J.2)] 24) = w6 at I G1 G2 ⊢
  generalize w4.heap.size = g1 at G1 ⊢
  generalize w5.heap.size = g2 at G2 ⊢
  have JI := hid (show HoJ w a b n0 n1 n2 g1 M g2 J w6 from ⟨I, G1, G2⟩)
  have q0 := I.ca.2.1
  have r0 := I.ca.2.2
  have q1 := I.cb.2.1
  have r1 := I.cb.2.2
  have q2 := G1.2.1
  have r2 := G1.2.2
  have q3 := G2.2.1
  have r3 := G2.2.2
  clear I G1 G2
  obtain rfl : vm = false := by have := hmh'.out; simpa using this
  have HHm2 := hid (HHm'.out (by trivial))
  clear hmh' hjh' HHm'
  refine wp_region_held_drew (S := (fun w' : World => Below w6.heap.size w6 w')) (by kernel_rfl) ?_ (fun hHeld => ?_)
  · (try dsimp only); first | (with_reducible exact below_dr _) | (with_reducible exact Below.refl _ _) | exact below_dr _
  have hBk := below_dr w6
  refine take_d (i := 0) (v := ?vh1001) rfl (by rfl) (by kernel_rfl) (by kernel_rfl) (by kernel_rfl) (fun _ _ _ h => h) (Or.inl ⟨by rfl, ?hh1001⟩) (by assumption) ?rh1001
  case hh1001 => (intro wS hSw; (try dsimp only at hSw); go_simp; try (with_reducible rfl))
  (try simp only [Act.put, List.setIfInBounds_toArray, List.set_cons_zero, List.set_cons_succ])
  refine take_d (i := 1) (v := ?vh1002) rfl (by rfl) (by kernel_rfl) (by kernel_rfl) (by kernel_rfl) (fun _ _ _ h => h) (Or.inl ⟨by rfl, ?hh1002⟩) (by assumption) ?rh1002
  case hh1002 => (intro wS hSw; (try dsimp only at hSw); go_simp; try (with_reducible rfl))
  (try simp only [Act.put, List.setIfInBounds_toArray, List.set_cons_zero, List.set_cons_succ])
  refine take_d (i := 2) (v := ?vh1003) rfl (by rfl) (by kernel_rfl) (by kernel_rfl) (by kernel_rfl) (fun _ _ _ h => h) (Or.inl ⟨by rfl, ?hh1003⟩) (by assumption) ?rh1003
  case hh1003 => (intro wS hSw; (try dsimp only at hSw); have hcq0 := cn hSw q2; have hcq1 := cn hSw r2; go_simp; try (with_reducible rfl))
  (try simp only [Act.put, List.setIfInBounds_toArray, List.set_cons_zero, List.set_cons_succ])
  refine take_d (i := 3) (v := ?vh1004) rfl (by rfl) (by kernel_rfl) (by kernel_rfl) (by kernel_rfl) (fun _ _ _ h => h) (Or.inl ⟨by rfl, ?hh1004⟩) (by assumption) ?rh1004
  case hh1004 => (intro wS hSw; (try dsimp only at hSw); go_simp; try (with_reducible rfl))
  (try simp only [Act.put, List.setIfInBounds_toArray, List.set_cons_zero, List.set_cons_succ])
  refine take_d (i := 6) (v := ?vh1005) rfl (by rfl) (by kernel_rfl) (by kernel_rfl) (by kernel_rfl) (fun _ _ _ h => h) (Or.inl ⟨by rfl, ?hh1005⟩) (by assumption) ?rh1005
  case hh1005 => (intro wS hSw; (try dsimp only at hSw); have hcq0 := cn hSw q0; have hcq1 := cn hSw r0; go_simp; try (with_reducible rfl))
  (try simp only [Act.put, List.setIfInBounds_toArray, List.set_cons_zero, List.set_cons_succ])
  refine take_d (i := 7) (v := ?vh1006) rfl (by rfl) (by kernel_rfl) (by kernel_rfl) (by kernel_rfl) (fun _ _ _ h => h) (Or.inl ⟨by rfl, ?hh1006⟩) (by assumption) ?rh1006
  case hh1006 => (intro wS hSw; (try dsimp only at hSw); go_simp; try (with_reducible rfl))
  (try simp only [Act.put, List.setIfInBounds_toArray, List.set_cons_zero, List.set_cons_succ])
  refine wpAnyH_ready (rs := [4]) (by kernel_rfl) (by simp) ?_
  refine AllReadyH.cons rfl (fun K hK => ?_) AllReadyH.nil
  go_simp
  go_at_call 46
  refine (HHm2.out _).mono ?_
  rintro e wh1007 ⟨rfl, bkh1007⟩
  have hBn := below_next hBk bkh1007
  clear hBk bkh1007
  have hBk := hBn
  clear hBn
  try go_simp
  refine hK.out _ _ ?_ (fun hHeld => ?_)
  · (try dsimp only); exact hBk
  clear hK K
  (try simp only [Act.put, List.setIfInBounds_toArray, List.set_cons_zero, List.set_cons_succ])
  refine take_d (i := 5) (v := ?vh1008) rfl (by rfl) (by kernel_rfl) (by kernel_rfl) (by kernel_rfl) (fun _ _ _ h => h) (Or.inl ⟨by rfl, ?hh1008⟩) (by assumption) ?rh1008
  case hh1008 => (intro wS hSw; (try dsimp only at hSw); go_simp; try (with_reducible rfl))
  (try simp only [Act.put, List.setIfInBounds_toArray, List.set_cons_zero, List.set_cons_succ])
  refine wpAnyH_ready (rs := [8]) (by kernel_rfl) (by simp) ?_
  refine AllReadyH.cons rfl (fun K hK => ?_) AllReadyH.nil
  go_simp
  go_at_call 46
  refine (HHa'.out _).mono ?_
  rintro e wh1009 ⟨rfl, bkh1009⟩
  have hBn := below_next hBk bkh1009
  clear hBk bkh1009
  have hBk := hBn
  clear hBn
  try go_simp
  refine hK.out _ _ ?_ (fun hHeld => ?_)
  · (try dsimp only); exact hBk
  clear hK K
  (try simp only [Act.put, List.setIfInBounds_toArray, List.set_cons_zero, List.set_cons_succ])
  refine take_d (i := 9) (v := ?vh10010) rfl (by rfl) (by kernel_rfl) (by kernel_rfl) (by kernel_rfl) (fun _ _ _ h => h) (Or.inl ⟨by rfl, ?hh10010⟩) (by assumption) ?rh10010
  case hh10010 => (intro wS hSw; (try dsimp only at hSw); go_simp; try (with_reducible rfl))
  (try simp only [Act.put, List.setIfInBounds_toArray, List.set_cons_zero, List.set_cons_succ])
  refine take_d (i := 10) (v := undef) rfl (by rfl) (by kernel_rfl) (by kernel_rfl) (by kernel_rfl) (fun _ _ _ h => h) (Or.inr ⟨by rfl, rfl⟩) (by assumption) ?rh10011
  (try simp only [Act.put, List.setIfInBounds_toArray, List.set_cons_zero, List.set_cons_succ])
  refine take_d (i := 11) (v := undef) rfl (by rfl) (by kernel_rfl) (by kernel_rfl) (by kernel_rfl) (fun _ _ _ h => h) (Or.inr ⟨by rfl, rfl⟩) (by assumption) ?rh10012
  (try simp only [Act.put, List.setIfInBounds_toArray, List.set_cons_zero, List.set_cons_succ])
  refine take_d (i := 12) (v := undef) rfl (by rfl) (by kernel_rfl) (by kernel_rfl) (by kernel_rfl) (fun _ _ _ h => h) (Or.inr ⟨by rfl, rfl⟩) (by assumption) ?rh10013
  (try simp only [Act.put, List.setIfInBounds_toArray, List.set_cons_zero, List.set_cons_succ])
  refine take_d (i := 13) (v := ?vh10014) rfl (by rfl) (by kernel_rfl) (by kernel_rfl) (by kernel_rfl) (fun _ _ _ h => h) (Or.inl ⟨by rfl, ?hh10014⟩) (by assumption) ?rh10014
  case hh10014 => (intro wS hSw; (try dsimp only at hSw); go_simp; try (with_reducible rfl))
  (try simp only [Act.put, List.setIfInBounds_toArray, List.set_cons_zero, List.set_cons_succ])
  refine take_d (i := 14) (v := ?vh10015) rfl (by rfl) (by kernel_rfl) (by kernel_rfl) (by kernel_rfl) (fun _ _ _ h => h) (Or.inl ⟨by rfl, ?hh10015⟩) (by assumption) ?rh10015
  case hh10015 => (intro wS hSw; (try dsimp only at hSw); go_simp; try (with_reducible rfl))
  (try simp only [Act.put, List.setIfInBounds_toArray, List.set_cons_zero, List.set_cons_succ])
  refine take_d (i := 15) (v := ?vh10016) rfl (by rfl) (by kernel_rfl) (by kernel_rfl) (by kernel_rfl) (fun _ _ _ h => h) (Or.inl ⟨by rfl, ?hh10016⟩) (by assumption) ?rh10016
  case hh10016 => (intro wS hSw; (try dsimp only at hSw); go_simp; try (with_reducible rfl))
  (try simp only [Act.put, List.setIfInBounds_toArray, List.set_cons_zero, List.set_cons_succ])
  refine take_d (i := 16) (v := ?vh10017) rfl (by rfl) (by kernel_rfl) (by kernel_rfl) (by kernel_rfl) (fun _ _ _ h => h) (Or.inl ⟨by rfl, ?hh10017⟩) (by assumption) ?rh10017
  case hh10017 => (intro wS hSw; (try dsimp only at hSw); have hcq0 := cn hSw q0; have hcq1 := cn hSw r0; go_simp; try (with_reducible rfl))
  (try simp only [Act.put, List.setIfInBounds_toArray, List.set_cons_zero, List.set_cons_succ])
  refine take_d (i := 17) (v := ?vh10018) rfl (by rfl) (by kernel_rfl) (by kernel_rfl) (by kernel_rfl) (fun _ _ _ h => h) (Or.inl ⟨by rfl, ?hh10018⟩) (by assumption) ?rh10018
  case hh10018 => (intro wS hSw; (try dsimp only at hSw); go_simp; try (with_reducible rfl))
  (try simp only [Act.put, List.setIfInBounds_toArray, List.set_cons_zero, List.set_cons_succ])
  refine wpAnyH_ready (rs := [18]) (by kernel_rfl) (by simp) ?_
  refine AllReadyH.cons rfl (fun K hK => ?_) AllReadyH.nil
  go_simp
  go_at_call 46
  refine (HHa'.out _).mono ?_
  rintro e wh10019 ⟨rfl, bkh10019⟩
  have hBn := below_next hBk bkh10019
  clear hBk bkh10019
  have hBk := hBn
  clear hBn
  try go_simp
  refine hK.out _ _ ?_ (fun hHeld => ?_)
  · (try dsimp only); exact hBk
  clear hK K
  (try simp only [Act.put, List.setIfInBounds_toArray, List.set_cons_zero, List.set_cons_succ])
  refine take_d (i := 19) (v := ?vh10020) rfl (by rfl) (by kernel_rfl) (by kernel_rfl) (by kernel_rfl) (fun _ _ _ h => h) (Or.inl ⟨by rfl, ?hh10020⟩) (by assumption) ?rh10020
  case hh10020 => (intro wS hSw; (try dsimp only at hSw); go_simp; try (with_reducible rfl))
  (try simp only [Act.put, List.setIfInBounds_toArray, List.set_cons_zero, List.set_cons_succ])
  refine take_d (i := 20) (v := ?vh10021) rfl (by rfl) (by kernel_rfl) (by kernel_rfl) (by kernel_rfl) (fun _ _ _ h => h) (Or.inl ⟨by rfl, ?hh10021⟩) (by assumption) ?rh10021
  case hh10021 => (intro wS hSw; (try dsimp only at hSw); have hcq0 := cn hSw q1; have hcq1 := cn hSw r1; go_simp; try (with_reducible rfl))
  (try simp only [Act.put, List.setIfInBounds_toArray, List.set_cons_zero, List.set_cons_succ])
  refine take_d (i := 21) (v := ?vh10022) rfl (by rfl) (by kernel_rfl) (by kernel_rfl) (by kernel_rfl) (fun _ _ _ h => h) (Or.inl ⟨by rfl, ?hh10022⟩) (by assumption) ?rh10022
  case hh10022 => (intro wS hSw; (try dsimp only at hSw); go_simp; try (with_reducible rfl))
  (try simp only [Act.put, List.setIfInBounds_toArray, List.set_cons_zero, List.set_cons_succ])
  refine wpAnyH_ready (rs := [22]) (by kernel_rfl) (by simp) ?_
  refine AllReadyH.cons rfl (fun K hK => ?_) AllReadyH.nil
  go_simp
  go_at_call 46
  refine (HHb'.out _).mono ?_
  rintro e wh10023 ⟨rfl, bkh10023⟩
  have hBn := below_next hBk bkh10023
  clear hBk bkh10023
  have hBk := hBn
  clear hBn
  try go_simp
  refine hK.out _ _ ?_ (fun hHeld => ?_)
  · (try dsimp only); exact hBk
  clear hK K
  (try simp only [Act.put, List.setIfInBounds_toArray, List.set_cons_zero, List.set_cons_succ])
  refine take_d (i := 23) (v := ?vh10024) rfl (by rfl) (by kernel_rfl) (by kernel_rfl) (by kernel_rfl) (fun _ _ _ h => h) (Or.inl ⟨by rfl, ?hh10024⟩) (by assumption) ?rh10024
  case hh10024 => (intro wS hSw; (try dsimp only at hSw); go_simp; try (with_reducible rfl))
  (try simp only [Act.put, List.setIfInBounds_toArray, List.set_cons_zero, List.set_cons_succ])
  refine take_d (i := 24) (v := ?vh10025) rfl (by rfl) (by kernel_rfl) (by kernel_rfl) (by kernel_rfl) (fun _ _ _ h => h) (Or.inl ⟨by rfl, ?hh10025⟩) (by assumption) ?rh10025
  case hh10025 => (intro wS hSw; (try dsimp only at hSw); go_simp; try (with_reducible rfl))
  (try simp only [Act.put, List.setIfInBounds_toArray, List.set_cons_zero, List.set_cons_succ])
  refine take_d (i := 25) (v := undef) rfl (by rfl) (by kernel_rfl) (by kernel_rfl) (by kernel_rfl) (fun _ _ _ h => h) (Or.inr ⟨by rfl, rfl⟩) (by assumption) ?rh10026
  (try simp only [Act.put, List.setIfInBounds_toArray, List.set_cons_zero, List.set_cons_succ])
  refine take_d (i := 26) (v := undef) rfl (by rfl) (by kernel_rfl) (by kernel_rfl) (by kernel_rfl) (fun _ _ _ h => h) (Or.inr ⟨by rfl, rfl⟩) (by assumption) ?rh10027
  (try simp only [Act.put, List.setIfInBounds_toArray, List.set_cons_zero, List.set_cons_succ])
  refine take_d (i := 27) (v := undef) rfl (by rfl) (by kernel_rfl) (by kernel_rfl) (by kernel_rfl) (fun _ _ _ h => h) (Or.inr ⟨by rfl, rfl⟩) (by assumption) ?rh10028
  (try simp only [Act.put, List.setIfInBounds_toArray, List.set_cons_zero, List.set_cons_succ])
  refine take_d (i := 28) (v := undef) rfl (by rfl) (by kernel_rfl) (by kernel_rfl) (by kernel_rfl) (fun _ _ _ h => h) (Or.inr ⟨by rfl, rfl⟩) (by assumption) ?rh10029
  (try simp only [Act.put, List.setIfInBounds_toArray, List.set_cons_zero, List.set_cons_succ])
  refine take_d (i := 29) (v := ?vh10030) rfl (by rfl) (by kernel_rfl) (by kernel_rfl) (by kernel_rfl) (fun _ _ _ h => h) (Or.inl ⟨by rfl, ?hh10030⟩) (by assumption) ?rh10030
  case hh10030 => (intro wS hSw; (try dsimp only at hSw); go_simp; try (with_reducible rfl))
  (try simp only [Act.put, List.setIfInBounds_toArray, List.set_cons_zero, List.set_cons_succ])
  refine take_d (i := 30) (v := ?vh10031) rfl (by rfl) (by kernel_rfl) (by kernel_rfl) (by kernel_rfl) (fun _ _ _ h => h) (Or.inl ⟨by rfl, ?hh10031⟩) (by assumption) ?rh10031
  case hh10031 => (intro wS hSw; (try dsimp only at hSw); go_simp; try (with_reducible rfl))
  (try simp only [Act.put, List.setIfInBounds_toArray, List.set_cons_zero, List.set_cons_succ])
  refine wpAnyH_done (by kernel_rfl) ?_ _
  have J2 := JI.out.next hBk
  clear JI hBk q0 r0 q1 r1 q2 r2 q3 r3 HHa' HHb' HHj' HHm2
  have I2 := J2.i
  clear J2
  have c1 := I2.cc.2.2.1
  have c2 := I2.cc.2.2.2
  have hl := I2.cc.1
  have hm1 := hmin'.out
  have hm2 := hmax'.out
  go_wp2_with fail
  refine wp_region_held_drew (S := (fun w' : World => Below wh10023.heap.size wh10023 w')) (by kernel_rfl) ?_ (fun hHeld => ?_)
  · (try dsimp only); first | (with_reducible exact below_dr _) | (with_reducible exact Below.refl _ _) | exact below_dr _
  have hBk := below_dr wh10023
  refine take_d (i := 0) (v := ?vk1001) rfl (by rfl) (by kernel_rfl) (by kernel_rfl) (by kernel_rfl) (fun _ _ _ h => h) (Or.inl ⟨by rfl, ?hk1001⟩) (by assumption) ?rk1001
  case hk1001 => (intro wS hSw; (try dsimp only at hSw); go_simp; try (with_reducible rfl))
  (try simp only [Act.put, List.setIfInBounds_toArray, List.set_cons_zero, List.set_cons_succ])
  refine take_d (i := 1) (v := ?vk1002) rfl (by rfl) (by kernel_rfl) (by kernel_rfl) (by kernel_rfl) (fun _ _ _ h => h) (Or.inl ⟨by rfl, ?hk1002⟩) (by assumption) ?rk1002
  case hk1002 => (intro wS hSw; (try dsimp only at hSw); have hcq0 := cn hSw c1; go_simp; try (with_reducible rfl))
  (try simp only [Act.put, List.setIfInBounds_toArray, List.set_cons_zero, List.set_cons_succ])
  refine take_d (i := 2) (v := ?vk1003) rfl (by rfl) (by kernel_rfl) (by kernel_rfl) (by kernel_rfl) (fun _ _ _ h => h) (Or.inl ⟨by rfl, ?hk1003⟩) (by assumption) ?rk1003
  case hk1003 => (intro wS hSw; (try dsimp only at hSw); go_simp; try (with_reducible rfl))
  (try simp only [Act.put, List.setIfInBounds_toArray, List.set_cons_zero, List.set_cons_succ])
  refine take_d (i := 3) (v := ?vk1004) rfl (by rfl) (by kernel_rfl) (by kernel_rfl) (by kernel_rfl) (fun _ _ _ h => h) (Or.inl ⟨by rfl, ?hk1004⟩) (by assumption) ?rk1004
  case hk1004 => (intro wS hSw; (try dsimp only at hSw); have hcq0 := cn hSw c2; go_simp; try (with_reducible rfl))
  (try simp only [Act.put, List.setIfInBounds_toArray, List.set_cons_zero, List.set_cons_succ])
  refine take_d (i := 4) (v := ?vk1005) rfl (by rfl) (by kernel_rfl) (by kernel_rfl) (by kernel_rfl) (fun _ _ _ h => h) (Or.inl ⟨by rfl, ?hk1005⟩) (by assumption) ?rk1005
  case hk1005 => (intro wS hSw; (try dsimp only at hSw); go_simp; try (with_reducible rfl))
  (try simp only [Act.put, List.setIfInBounds_toArray, List.set_cons_zero, List.set_cons_succ])
  refine take_d (i := 5) (v := ?vk1006) rfl (by rfl) (by kernel_rfl) (by kernel_rfl) (by kernel_rfl) (fun _ _ _ h => h) (Or.inl ⟨by rfl, ?hk1006⟩) (by assumption) ?rk1006
  case hk1006 => (intro wS hSw; (try dsimp only at hSw); go_simp; try (with_reducible rfl))
  (try simp only [Act.put, List.setIfInBounds_toArray, List.set_cons_zero, List.set_cons_succ])
  refine take_d (i := 6) (v := ?vk1007) rfl (by rfl) (by kernel_rfl) (by kernel_rfl) (by kernel_rfl) (fun _ _ _ h => h) (Or.inl ⟨by rfl, ?hk1007⟩) (by assumption) ?rk1007
  case hk1007 => (intro wS hSw; (try dsimp only at hSw); have hcq0 := cn hSw c1; go_simp; try (with_reducible rfl))
  (try simp only [Act.put, List.setIfInBounds_toArray, List.set_cons_zero, List.set_cons_succ])
  refine take_d (i := 7) (v := ?vk1008) rfl (by rfl) (by kernel_rfl) (by kernel_rfl) (by kernel_rfl) (fun _ _ _ h => h) (Or.inl ⟨by rfl, ?hk1008⟩) (by assumption) ?rk1008
  case hk1008 => (intro wS hSw; (try dsimp only at hSw); go_simp; try (with_reducible rfl))
  (try simp only [Act.put, List.setIfInBounds_toArray, List.set_cons_zero, List.set_cons_succ])
  refine take_d (i := 8) (v := ?vk1009) rfl (by rfl) (by kernel_rfl) (by kernel_rfl) (by kernel_rfl) (fun _ _ _ h => h) (Or.inl ⟨by rfl, ?hk1009⟩) (by assumption) ?rk1009
  case hk1009 => (intro wS hSw; (try dsimp only at hSw); have hcq0 := cn hSw c2; go_simp; try (with_reducible rfl))
  (try simp only [Act.put, List.setIfInBounds_toArray, List.set_cons_zero, List.set_cons_succ])
  refine take_d (i := 9) (v := ?vk10010) rfl (by rfl) (by kernel_rfl) (by kernel_rfl) (by kernel_rfl) (fun _ _ _ h => h) (Or.inl ⟨by rfl, ?hk10010⟩) (by assumption) ?rk10010
  case hk10010 => (intro wS hSw; (try dsimp only at hSw); go_simp; try (with_reducible rfl))
  (try simp only [Act.put, List.setIfInBounds_toArray, List.set_cons_zero, List.set_cons_succ])
  refine take_d (i := 10) (v := ?vk10011) rfl (by rfl) (by kernel_rfl) (by kernel_rfl) (by kernel_rfl) (fun _ _ _ h => h) (Or.inl ⟨by rfl, ?hk10011⟩) (by assumption) ?rk10011
  case hk10011 => (intro wS hSw; (try dsimp only at hSw); go_simp; try (with_reducible rfl))
  (try simp only [Act.put, List.setIfInBounds_toArray, List.set_cons_zero, List.set_cons_succ])
  refine take_d (i := 11) (v := ?vk10012) rfl (by rfl) (by kernel_rfl) (by kernel_rfl) (by kernel_rfl) (fun _ _ _ h => h) (Or.inl ⟨by rfl, ?hk10012⟩) (by assumption) ?rk10012
  case hk10012 => (intro wS hSw; (try dsimp only at hSw); go_simp; try (with_reducible rfl))
  (try simp only [Act.put, List.setIfInBounds_toArray, List.set_cons_zero, List.set_cons_succ])
  refine wpAnyH_done (by kernel_rfl) ?_ _
  replace I2 := I2.next hBk
  clear c1 c2 hl hm1 hm2 hBk
  generalize wh10023.drew = w8 at I2 ⊢
  go_wp2_with fail
  refine (HRg'.out _).mono ?_
  rintro e w9 ⟨rfl, z9⟩
  replace I2 := I2.next z9
  clear z9
  have hB := hid I2.bel
  clear I2
  go_wp2_with fail
  have G3 : TC (w9.alloc (.cells #[.int .u64 (ub R.1), .int .u64 (ub R.2)] 24)) w9.heap.size R := TC.new rfl
  have hB2 := hid (Below.alloc hB.out hB.out.size (.cells #[.int .u64 (ub R.1), .int .u64 (ub R.2)] 24))
  clear hB
  generalize w9.alloc (.cells #[.int .u64 (ub R.1), .int .u64 (ub R.2)] 24) = wx at G3 hB2 ⊢
  generalize w9.heap.size = g3 at G3 ⊢
  have hB := hB2
  clear hB2
  have s0 := G3.1
  have s1 := G3.2.1
  have s2 := G3.2.2
  go_wp2_with fail
  refine (HRl'.out _).mono ?_
  rintro e wa ⟨rfl, za⟩
  clear s0 s1 s2
  replace G3 := G3.below za
  have hB2 := hid (hB.out.trans (za.mono hB.out.size))
  clear hB za
  have hB := hB2
  clear hB2
  have s0 := G3.1
  have s1 := G3.2.1
  have s2 := G3.2.2
  go_wp2_with fail
  refine (HRh'.out _).mono ?_
  rintro e wb ⟨rfl, zb⟩
  clear s0 s1 s2
  replace G3 := G3.below zb
  have hB2 := hid (hB.out.trans (zb.mono hB.out.size))
  clear hB zb
  have hB := hB2
  clear hB2
  have s0 := G3.1
  have s1 := G3.2.1
  have s2 := G3.2.2
  by_cases hx1 : ub lo ≤ ub n0
  · by_cases hx2 : ub n0 ≤ ub hi
    · have HRx2 := hid (fun W => HRx'.out W ⟨hx1, hx2⟩)
      clear HRx'
      go_wp2_with fail
      refine (HRx2.out _).mono ?_
      rintro e wc ⟨rfl, zc⟩
      clear s0 s1 s2
      replace G3 := G3.below zc
      have hB2 := hid (hB.out.trans (zc.mono hB.out.size))
      clear hB zc
      have hB := hB2
      clear hB2
      have s0 := G3.1
      have s1 := G3.2.1
      have s2 := G3.2.2
      have e1 := hr1'.out
      have e2 := hr2'.out
      have e3 := hr3'.out
      clear hr1' hr2' hr3'
      by_cases hq : lo = hi
      · have e5 : (lo == hi) = true := by rw [hq]; exact beq_self_eq_true hi
        have e6 : (R.2 == 0#64) = true := by rw [← e2, e5]
        clear e2 hr4' hq
        go_wp2
        go_ret
        exact ⟨rfl, hB.out⟩
      · have e4 := hr4'.out hq
        have e5 : (lo == hi) = false := beq_eq_false_iff_ne.2 hq
        have e6 : (R.2 == 0#64) = false := by rw [← e2, e5]
        clear e2 hr4' hq
        go_wp2
        go_ret
        exact ⟨rfl, hB.out⟩
    · clear HRx'
      have e1 := hr1'.out
      have e2 := hr2'.out
      have e3 := hr3'.out
      clear hr1' hr2' hr3'
      by_cases hq : lo = hi
      · have e5 : (lo == hi) = true := by rw [hq]; exact beq_self_eq_true hi
        have e6 : (R.2 == 0#64) = true := by rw [← e2, e5]
        clear e2 hr4' hq
        go_wp2
        go_ret
        exact ⟨rfl, hB.out⟩
      · have e4 := hr4'.out hq
        have e5 : (lo == hi) = false := beq_eq_false_iff_ne.2 hq
        have e6 : (R.2 == 0#64) = false := by rw [← e2, e5]
        clear e2 hr4' hq
        go_wp2
        go_ret
        exact ⟨rfl, hB.out⟩
  · clear HRx'
    have e1 := hr1'.out
    have e2 := hr2'.out
    have e3 := hr3'.out
    clear hr1' hr2' hr3'
    by_cases hq : lo = hi
    · have e5 : (lo == hi) = true := by rw [hq]; exact beq_self_eq_true hi
      have e6 : (R.2 == 0#64) = true := by rw [← e2, e5]
      clear e2 hr4' hq
      go_wp2
      go_ret
      exact ⟨rfl, hB.out⟩
    · have e4 := hr4'.out hq
      have e5 : (lo == hi) = false := beq_eq_false_iff_ne.2 hq
      have e6 : (R.2 == 0#64) = false := by rw [← e2, e5]
      clear e2 hr4' hq
      go_wp2
      go_ret
      exact ⟨rfl, hB.out⟩
end Go.Proofs.Ytoanbjnhoggpjaa
