/-
  TnumHolds: the walk where both may be, way by way.
-/
import Derived.Test.YtoanbjnhoggpjaaTnHa
import Derived.Lib.MinMax
namespace Go.Proofs.Ytoanbjnhoggpjaa
set_option linter.unusedSimpArgs false
set_option linter.unusedVariables false
open Go.ChangeShapes Go.WideShapes Go.ChangeAt Go.RowKit

set_option maxRecDepth 100000 in
set_option maxHeartbeats 8000000 in
theorem holds_010 (a b : Tn) (n0 n1 n2 : B64) (w : World) (ha : tmay a = true) (hb : tmay b = true) (h1 : thas a n0 = true) (h2 : thas b n0 = false) (h3 : meetB a b = false) (lo hi : B64)
    (hmin : min (ub n1) (ub n2) = ub lo) (hmax : max (ub n1) (ub n2) = ub hi) (hlh : ub lo ≤ ub hi) : Calls Try.prog 10 #[tv a, tv b, .agg #[.int .u64 (ub n0), .int .u64 (ub n1), .int .u64 (ub n2)]] w fun e w' => e = .returned (.bool true) ∧ Below w.heap.size w w' := by
  have hmh := meet_has ha hb n0
  have hjh := join_has ha hb n0
  rw [h3, h1, h2] at hmh
  rw [h1, h2] at hjh
  have HAW := hid awake_true
  have HA := fun W => tMay_any a W
  have HB := fun W => tMay_any b W
  rw [ha] at HA
  rw [hb] at HB
  have HX1 := fun W => tMeet_any a b W
  rw [h3] at HX1
  have HX2 := fun W => tJoin_any a b W
  rw [show bothT a b (joinT a b) = joinT a b by unfold bothT; rw [ha, hb]; rfl, show bothE a b = 0 by unfold bothE; rw [ha, hb]; rfl] at HX2
  have HHa := fun W => tHas_any a n0 W
  have HHb := fun W => tHas_any b n0 W
  rw [h1] at HHa
  rw [h2] at HHb
  have HHm := fun W => tHas_any (meetT a b) n0 W
  have HHj := fun W => tHas_any (joinT a b) n0 W
  have HRg := fun W => tRange_any lo hi W
  rw [show rangeT lo hi = rgT lo hi by unfold rangeT; rw [if_neg (by omega)]; rfl, show rangeE lo hi = 0 by unfold rangeE; rw [if_neg (by omega)]] at HRg
  have HRl := fun W => tHas_any (rgT lo hi) lo W
  have HRh := fun W => tHas_any (rgT lo hi) hi W
  rw [rg_lo] at HRl
  rw [rg_hi] at HRh
  have HRx := fun W (h : ub lo ≤ ub n0 ∧ ub n0 ≤ ub hi) => (rg_mid h.1 h.2) ▸ tHas_any (rgT lo hi) n0 W
  generalize thas (meetT a b) n0 = vm at hmh HHm
  generalize thas (joinT a b) n0 = vj at hjh HHj
  obtain ⟨M, hM⟩ : ∃ M, M = (if false then meetT a b else t0) := ⟨_, rfl⟩
  rw [← hM] at HX1
  have hMm : false = true → M = meetT a b := fun h => by rw [hM, h]; rfl
  clear hM h1 h2 h3 ha hb
  have hmm : false = true → ∀ W, Calls Try.prog 46 #[tv M, .int .u64 (ub n0)] W fun e w' => e = .returned (.bool vm) ∧ Below W.heap.size W w' := fun h W => by rw [hMm h]; exact HHm W
  clear HHm hMm
  generalize joinT a b = J at HX2 HHj
  have hr1 := low_and (LL lo hi) (LL_le lo hi)
  rw [← rg_m] at hr1
  have hr2 := rg_eq lo hi
  have hr3 := rg_out lo hi
  have hr4 := fun h : lo ≠ hi => rg_big h
  generalize rgT lo hi = R at *
  unfold tv at HA HB HX1 HX2 HHa HHb HHj HRg HRl HRh HRx hmm ⊢
  have HA' := hid HA
  have HB' := hid HB
  have HX1' := hid HX1
  have HX2' := hid HX2
  have HHa' := hid HHa
  have HHb' := hid HHb
  have HHj' := hid HHj
  have HHm' := hid hmm
  have HRg' := hid HRg
  have HRl' := hid HRl
  have HRh' := hid HRh
  have HRx' := hid HRx
  have hmh' := hid hmh
  have hjh' := hid hjh
  have hr1' := hid hr1
  have hr2' := hid hr2
  have hr3' := hid hr3
  have hr4' := hid hr4
  have hmin' := hid hmin
  have hmax' := hid hmax
  clear HA HB HX1 HX2 HHa HHb HHj hmm HRg HRl HRh HRx hmh hjh hr1 hr2 hr3 hr4 hmin hmax
  go_enter Try.func10, Try.ntmps10
  go_wp2_with fail
  refine (HAW.out _).mono ?_
  rintro e w1 ⟨rfl, z1⟩
  have I : HoI w a b n0 n1 n2 w1 := ⟨((TC.new rfl).alloc _ |>.alloc _).below z1, ((TC.new (by simp)).alloc _).below z1, (AC.new (by simp)).below z1, ((((Below.refl _ _).alloc (Nat.le_refl _) _).alloc (by simp) _).alloc (by simp; omega) _).trans (z1.mono (by simp; omega))⟩
  clear z1
  have p0 := I.ca.1
  have q0 := I.ca.2.1
  have r0 := I.ca.2.2
  have p1 := I.cb.1
  have q1 := I.cb.2.1
  have r1 := I.cb.2.2
  go_wp2_with fail
  refine (HA'.out _).mono ?_
  rintro e w2 ⟨rfl, z2⟩
  clear p0 q0 r0 p1 q1 r1
  replace I := I.next z2
  clear z2
  have p0 := I.ca.1
  have q0 := I.ca.2.1
  have r0 := I.ca.2.2
  have p1 := I.cb.1
  have q1 := I.cb.2.1
  have r1 := I.cb.2.2
  go_wp2_with fail
  refine (HB'.out _).mono ?_
  rintro e w3 ⟨rfl, z3⟩
  clear p0 q0 r0 p1 q1 r1
  replace I := I.next z3
  clear z3
  have p0 := I.ca.1
  have q0 := I.ca.2.1
  have r0 := I.ca.2.2
  have p1 := I.cb.1
  have q1 := I.cb.2.1
  have r1 := I.cb.2.2
  go_wp2_with fail
  refine (HX1'.out _).mono ?_
  rintro e w4 ⟨rfl, z4⟩
  clear p0 q0 r0 p1 q1 r1
  replace I := I.next z4
  clear z4
  have p0 := I.ca.1
  have q0 := I.ca.2.1
  have r0 := I.ca.2.2
  have p1 := I.cb.1
  have q1 := I.cb.2.1
  have r1 := I.cb.2.2
  go_wp2_with fail
  refine (HX2'.out _).mono ?_
  rintro e w5 ⟨rfl, z5⟩
  clear p0 q0 r0 p1 q1 r1
  have G1 : TC w5 w4.heap.size M := (TC.new rfl).below z5
  replace I := (I.next ((Below.refl _ _).alloc (Nat.le_refl _) (.cells #[.int .u64 (ub M.1), .int .u64 (ub M.2)] 24))).next z5
  clear z5
  have p0 := I.ca.1
  have q0 := I.ca.2.1
  have r0 := I.ca.2.2
  have p1 := I.cb.1
  have q1 := I.cb.2.1
  have r1 := I.cb.2.2
  have x1 := I.cc.2.1
  have x2 := I.cc.1
  go_wp2_with fail
  clear p0 q0 r0 p1 q1 r1 x1 x2
  replace I := I.next ((Below.refl w5.heap.size w5).alloc (Nat.le_refl _) (.cells #[.int .u64 (ub J.1), .int .u64 (ub J.2)] 24))
  replace G1 := G1.alloc (.cells #[.int .u64 (ub J.1), .int .u64 (ub J.2)] 24)
  have G2 : TC (w5.alloc (.cells #[.int .u64 (ub J.1), .int .u64 (ub J.2)] 24)) w5.heap.size J := TC.new rfl
  generalize w5.alloc (.cells #[.int .u64 (ub J.1), .int .u64 (ub J.2)] 24) = w6 at I G1 G2 ⊢
  generalize w4.heap.size = g1 at G1 ⊢
  generalize w5.heap.size = g2 at G2 ⊢
  have JI := hid (show HoJ w a b n0 n1 n2 g1 M g2 J w6 from ⟨I, G1, G2⟩)
  have q0 := I.ca.2.1
  have r0 := I.ca.2.2
  have q1 := I.cb.2.1
  have r1 := I.cb.2.2
  have q2 := G1.2.1
  have r2 := G1.2.2
  have q3 := G2.2.1
  have r3 := G2.2.2
  clear I G1 G2
  obtain rfl : vj = true := hjh'.out (by simp)
  clear hmh' hjh' HHm'
  refine wp_region_held_drew (S := (fun w' : World => Below w6.heap.size w6 w')) (by kernel_rfl) ?_ (fun hHeld => ?_)
  · (try dsimp only); first | (with_reducible exact below_dr _) | (with_reducible exact Below.refl _ _) | exact below_dr _
  have hBk := below_dr w6
  refine take_d (i := 0) (v := ?vh0101) rfl (by rfl) (by kernel_rfl) (by kernel_rfl) (by kernel_rfl) (fun _ _ _ h => h) (Or.inl ⟨by rfl, ?hh0101⟩) (by assumption) ?rh0101
  case hh0101 => (intro wS hSw; (try dsimp only at hSw); go_simp; try (with_reducible rfl))
  (try simp only [Act.put, List.setIfInBounds_toArray, List.set_cons_zero, List.set_cons_succ])
  refine take_d (i := 1) (v := ?vh0102) rfl (by rfl) (by kernel_rfl) (by kernel_rfl) (by kernel_rfl) (fun _ _ _ h => h) (Or.inl ⟨by rfl, ?hh0102⟩) (by assumption) ?rh0102
  case hh0102 => (intro wS hSw; (try dsimp only at hSw); go_simp; try (with_reducible rfl))
  (try simp only [Act.put, List.setIfInBounds_toArray, List.set_cons_zero, List.set_cons_succ])
  refine take_d (i := 2) (v := undef) rfl (by rfl) (by kernel_rfl) (by kernel_rfl) (by kernel_rfl) (fun _ _ _ h => h) (Or.inr ⟨by rfl, rfl⟩) (by assumption) ?rh0103
  (try simp only [Act.put, List.setIfInBounds_toArray, List.set_cons_zero, List.set_cons_succ])
  refine take_d (i := 3) (v := undef) rfl (by rfl) (by kernel_rfl) (by kernel_rfl) (by kernel_rfl) (fun _ _ _ h => h) (Or.inr ⟨by rfl, rfl⟩) (by assumption) ?rh0104
  (try simp only [Act.put, List.setIfInBounds_toArray, List.set_cons_zero, List.set_cons_succ])
  refine take_d (i := 4) (v := undef) rfl (by rfl) (by kernel_rfl) (by kernel_rfl) (by kernel_rfl) (fun _ _ _ h => h) (Or.inr ⟨by rfl, rfl⟩) (by assumption) ?rh0105
  (try simp only [Act.put, List.setIfInBounds_toArray, List.set_cons_zero, List.set_cons_succ])
  refine take_d (i := 5) (v := ?vh0106) rfl (by rfl) (by kernel_rfl) (by kernel_rfl) (by kernel_rfl) (fun _ _ _ h => h) (Or.inl ⟨by rfl, ?hh0106⟩) (by assumption) ?rh0106
  case hh0106 => (intro wS hSw; (try dsimp only at hSw); go_simp; try (with_reducible rfl))
  (try simp only [Act.put, List.setIfInBounds_toArray, List.set_cons_zero, List.set_cons_succ])
  refine take_d (i := 6) (v := ?vh0107) rfl (by rfl) (by kernel_rfl) (by kernel_rfl) (by kernel_rfl) (fun _ _ _ h => h) (Or.inl ⟨by rfl, ?hh0107⟩) (by assumption) ?rh0107
  case hh0107 => (intro wS hSw; (try dsimp only at hSw); have hcq0 := cn hSw q0; have hcq1 := cn hSw r0; go_simp; try (with_reducible rfl))
  (try simp only [Act.put, List.setIfInBounds_toArray, List.set_cons_zero, List.set_cons_succ])
  refine take_d (i := 7) (v := ?vh0108) rfl (by rfl) (by kernel_rfl) (by kernel_rfl) (by kernel_rfl) (fun _ _ _ h => h) (Or.inl ⟨by rfl, ?hh0108⟩) (by assumption) ?rh0108
  case hh0108 => (intro wS hSw; (try dsimp only at hSw); go_simp; try (with_reducible rfl))
  (try simp only [Act.put, List.setIfInBounds_toArray, List.set_cons_zero, List.set_cons_succ])
  refine wpAnyH_ready (rs := [8]) (by kernel_rfl) (by simp) ?_
  refine AllReadyH.cons rfl (fun K hK => ?_) AllReadyH.nil
  go_simp
  go_at_call 46
  refine (HHa'.out _).mono ?_
  rintro e wh0109 ⟨rfl, bkh0109⟩
  have hBn := below_next hBk bkh0109
  clear hBk bkh0109
  have hBk := hBn
  clear hBn
  try go_simp
  refine hK.out _ _ ?_ (fun hHeld => ?_)
  · (try dsimp only); exact hBk
  clear hK K
  (try simp only [Act.put, List.setIfInBounds_toArray, List.set_cons_zero, List.set_cons_succ])
  refine take_d (i := 9) (v := ?vh01010) rfl (by rfl) (by kernel_rfl) (by kernel_rfl) (by kernel_rfl) (fun _ _ _ h => h) (Or.inl ⟨by rfl, ?hh01010⟩) (by assumption) ?rh01010
  case hh01010 => (intro wS hSw; (try dsimp only at hSw); go_simp; try (with_reducible rfl))
  (try simp only [Act.put, List.setIfInBounds_toArray, List.set_cons_zero, List.set_cons_succ])
  refine take_d (i := 10) (v := ?vh01011) rfl (by rfl) (by kernel_rfl) (by kernel_rfl) (by kernel_rfl) (fun _ _ _ h => h) (Or.inl ⟨by rfl, ?hh01011⟩) (by assumption) ?rh01011
  case hh01011 => (intro wS hSw; (try dsimp only at hSw); have hcq0 := cn hSw q1; have hcq1 := cn hSw r1; go_simp; try (with_reducible rfl))
  (try simp only [Act.put, List.setIfInBounds_toArray, List.set_cons_zero, List.set_cons_succ])
  refine take_d (i := 11) (v := ?vh01012) rfl (by rfl) (by kernel_rfl) (by kernel_rfl) (by kernel_rfl) (fun _ _ _ h => h) (Or.inl ⟨by rfl, ?hh01012⟩) (by assumption) ?rh01012
  case hh01012 => (intro wS hSw; (try dsimp only at hSw); go_simp; try (with_reducible rfl))
  (try simp only [Act.put, List.setIfInBounds_toArray, List.set_cons_zero, List.set_cons_succ])
  refine wpAnyH_ready (rs := [12]) (by kernel_rfl) (by simp) ?_
  refine AllReadyH.cons rfl (fun K hK => ?_) AllReadyH.nil
  go_simp
  go_at_call 46
  refine (HHb'.out _).mono ?_
  rintro e wh01013 ⟨rfl, bkh01013⟩
  have hBn := below_next hBk bkh01013
  clear hBk bkh01013
  have hBk := hBn
  clear hBn
  try go_simp
  refine hK.out _ _ ?_ (fun hHeld => ?_)
  · (try dsimp only); exact hBk
  clear hK K
  (try simp only [Act.put, List.setIfInBounds_toArray, List.set_cons_zero, List.set_cons_succ])
  refine take_d (i := 13) (v := ?vh01014) rfl (by rfl) (by kernel_rfl) (by kernel_rfl) (by kernel_rfl) (fun _ _ _ h => h) (Or.inl ⟨by rfl, ?hh01014⟩) (by assumption) ?rh01014
  case hh01014 => (intro wS hSw; (try dsimp only at hSw); go_simp; try (with_reducible rfl))
  (try simp only [Act.put, List.setIfInBounds_toArray, List.set_cons_zero, List.set_cons_succ])
  refine take_d (i := 14) (v := ?vh01015) rfl (by rfl) (by kernel_rfl) (by kernel_rfl) (by kernel_rfl) (fun _ _ _ h => h) (Or.inl ⟨by rfl, ?hh01015⟩) (by assumption) ?rh01015
  case hh01015 => (intro wS hSw; (try dsimp only at hSw); go_simp; try (with_reducible rfl))
  (try simp only [Act.put, List.setIfInBounds_toArray, List.set_cons_zero, List.set_cons_succ])
  refine take_d (i := 15) (v := ?vh01016) rfl (by rfl) (by kernel_rfl) (by kernel_rfl) (by kernel_rfl) (fun _ _ _ h => h) (Or.inl ⟨by rfl, ?hh01016⟩) (by assumption) ?rh01016
  case hh01016 => (intro wS hSw; (try dsimp only at hSw); go_simp; try (with_reducible rfl))
  (try simp only [Act.put, List.setIfInBounds_toArray, List.set_cons_zero, List.set_cons_succ])
  refine take_d (i := 16) (v := ?vh01017) rfl (by rfl) (by kernel_rfl) (by kernel_rfl) (by kernel_rfl) (fun _ _ _ h => h) (Or.inl ⟨by rfl, ?hh01017⟩) (by assumption) ?rh01017
  case hh01017 => (intro wS hSw; (try dsimp only at hSw); have hcq0 := cn hSw q0; have hcq1 := cn hSw r0; go_simp; try (with_reducible rfl))
  (try simp only [Act.put, List.setIfInBounds_toArray, List.set_cons_zero, List.set_cons_succ])
  refine take_d (i := 17) (v := ?vh01018) rfl (by rfl) (by kernel_rfl) (by kernel_rfl) (by kernel_rfl) (fun _ _ _ h => h) (Or.inl ⟨by rfl, ?hh01018⟩) (by assumption) ?rh01018
  case hh01018 => (intro wS hSw; (try dsimp only at hSw); go_simp; try (with_reducible rfl))
  (try simp only [Act.put, List.setIfInBounds_toArray, List.set_cons_zero, List.set_cons_succ])
  refine wpAnyH_ready (rs := [18]) (by kernel_rfl) (by simp) ?_
  refine AllReadyH.cons rfl (fun K hK => ?_) AllReadyH.nil
  go_simp
  go_at_call 46
  refine (HHa'.out _).mono ?_
  rintro e wh01019 ⟨rfl, bkh01019⟩
  have hBn := below_next hBk bkh01019
  clear hBk bkh01019
  have hBk := hBn
  clear hBn
  try go_simp
  refine hK.out _ _ ?_ (fun hHeld => ?_)
  · (try dsimp only); exact hBk
  clear hK K
  (try simp only [Act.put, List.setIfInBounds_toArray, List.set_cons_zero, List.set_cons_succ])
  refine take_d (i := 19) (v := ?vh01020) rfl (by rfl) (by kernel_rfl) (by kernel_rfl) (by kernel_rfl) (fun _ _ _ h => h) (Or.inl ⟨by rfl, ?hh01020⟩) (by assumption) ?rh01020
  case hh01020 => (intro wS hSw; (try dsimp only at hSw); go_simp; try (with_reducible rfl))
  (try simp only [Act.put, List.setIfInBounds_toArray, List.set_cons_zero, List.set_cons_succ])
  refine take_d (i := 20) (v := undef) rfl (by rfl) (by kernel_rfl) (by kernel_rfl) (by kernel_rfl) (fun _ _ _ h => h) (Or.inr ⟨by rfl, rfl⟩) (by assumption) ?rh01021
  (try simp only [Act.put, List.setIfInBounds_toArray, List.set_cons_zero, List.set_cons_succ])
  refine take_d (i := 21) (v := undef) rfl (by rfl) (by kernel_rfl) (by kernel_rfl) (by kernel_rfl) (fun _ _ _ h => h) (Or.inr ⟨by rfl, rfl⟩) (by assumption) ?rh01022
  (try simp only [Act.put, List.setIfInBounds_toArray, List.set_cons_zero, List.set_cons_succ])
  refine take_d (i := 22) (v := undef) rfl (by rfl) (by kernel_rfl) (by kernel_rfl) (by kernel_rfl) (fun _ _ _ h => h) (Or.inr ⟨by rfl, rfl⟩) (by assumption) ?rh01023
  (try simp only [Act.put, List.setIfInBounds_toArray, List.set_cons_zero, List.set_cons_succ])
  refine take_d (i := 23) (v := ?vh01024) rfl (by rfl) (by kernel_rfl) (by kernel_rfl) (by kernel_rfl) (fun _ _ _ h => h) (Or.inl ⟨by rfl, ?hh01024⟩) (by assumption) ?rh01024
  case hh01024 => (intro wS hSw; (try dsimp only at hSw); go_simp; try (with_reducible rfl))
  (try simp only [Act.put, List.setIfInBounds_toArray, List.set_cons_zero, List.set_cons_succ])
  refine take_d (i := 24) (v := ?vh01025) rfl (by rfl) (by kernel_rfl) (by kernel_rfl) (by kernel_rfl) (fun _ _ _ h => h) (Or.inl ⟨by rfl, ?hh01025⟩) (by assumption) ?rh01025
  case hh01025 => (intro wS hSw; (try dsimp only at hSw); go_simp; try (with_reducible rfl))
  (try simp only [Act.put, List.setIfInBounds_toArray, List.set_cons_zero, List.set_cons_succ])
  refine take_d (i := 25) (v := ?vh01026) rfl (by rfl) (by kernel_rfl) (by kernel_rfl) (by kernel_rfl) (fun _ _ _ h => h) (Or.inl ⟨by rfl, ?hh01026⟩) (by assumption) ?rh01026
  case hh01026 => (intro wS hSw; (try dsimp only at hSw); have hcq0 := cn hSw q3; have hcq1 := cn hSw r3; go_simp; try (with_reducible rfl))
  (try simp only [Act.put, List.setIfInBounds_toArray, List.set_cons_zero, List.set_cons_succ])
  refine take_d (i := 26) (v := ?vh01027) rfl (by rfl) (by kernel_rfl) (by kernel_rfl) (by kernel_rfl) (fun _ _ _ h => h) (Or.inl ⟨by rfl, ?hh01027⟩) (by assumption) ?rh01027
  case hh01027 => (intro wS hSw; (try dsimp only at hSw); go_simp; try (with_reducible rfl))
  (try simp only [Act.put, List.setIfInBounds_toArray, List.set_cons_zero, List.set_cons_succ])
  refine wpAnyH_ready (rs := [27]) (by kernel_rfl) (by simp) ?_
  refine AllReadyH.cons rfl (fun K hK => ?_) AllReadyH.nil
  go_simp
  go_at_call 46
  refine (HHj'.out _).mono ?_
  rintro e wh01028 ⟨rfl, bkh01028⟩
  have hBn := below_next hBk bkh01028
  clear hBk bkh01028
  have hBk := hBn
  clear hBn
  try go_simp
  refine hK.out _ _ ?_ (fun hHeld => ?_)
  · (try dsimp only); exact hBk
  clear hK K
  (try simp only [Act.put, List.setIfInBounds_toArray, List.set_cons_zero, List.set_cons_succ])
  refine take_d (i := 28) (v := ?vh01029) rfl (by rfl) (by kernel_rfl) (by kernel_rfl) (by kernel_rfl) (fun _ _ _ h => h) (Or.inl ⟨by rfl, ?hh01029⟩) (by assumption) ?rh01029
  case hh01029 => (intro wS hSw; (try dsimp only at hSw); go_simp; try (with_reducible rfl))
  (try simp only [Act.put, List.setIfInBounds_toArray, List.set_cons_zero, List.set_cons_succ])
  refine take_d (i := 29) (v := ?vh01030) rfl (by rfl) (by kernel_rfl) (by kernel_rfl) (by kernel_rfl) (fun _ _ _ h => h) (Or.inl ⟨by rfl, ?hh01030⟩) (by assumption) ?rh01030
  case hh01030 => (intro wS hSw; (try dsimp only at hSw); go_simp; try (with_reducible rfl))
  (try simp only [Act.put, List.setIfInBounds_toArray, List.set_cons_zero, List.set_cons_succ])
  refine take_d (i := 30) (v := ?vh01031) rfl (by rfl) (by kernel_rfl) (by kernel_rfl) (by kernel_rfl) (fun _ _ _ h => h) (Or.inl ⟨by rfl, ?hh01031⟩) (by assumption) ?rh01031
  case hh01031 => (intro wS hSw; (try dsimp only at hSw); go_simp; try (with_reducible rfl))
  (try simp only [Act.put, List.setIfInBounds_toArray, List.set_cons_zero, List.set_cons_succ])
  refine wpAnyH_done (by kernel_rfl) ?_ _
  have J2 := JI.out.next hBk
  clear JI hBk q0 r0 q1 r1 q2 r2 q3 r3 HHa' HHb' HHj'
  have I2 := J2.i
  clear J2
  have c1 := I2.cc.2.2.1
  have c2 := I2.cc.2.2.2
  have hl := I2.cc.1
  have hm1 := hmin'.out
  have hm2 := hmax'.out
  go_wp2_with fail
  refine wp_region_held_drew (S := (fun w' : World => Below wh01028.heap.size wh01028 w')) (by kernel_rfl) ?_ (fun hHeld => ?_)
  · (try dsimp only); first | (with_reducible exact below_dr _) | (with_reducible exact Below.refl _ _) | exact below_dr _
  have hBk := below_dr wh01028
  refine take_d (i := 0) (v := ?vk0101) rfl (by rfl) (by kernel_rfl) (by kernel_rfl) (by kernel_rfl) (fun _ _ _ h => h) (Or.inl ⟨by rfl, ?hk0101⟩) (by assumption) ?rk0101
  case hk0101 => (intro wS hSw; (try dsimp only at hSw); go_simp; try (with_reducible rfl))
  (try simp only [Act.put, List.setIfInBounds_toArray, List.set_cons_zero, List.set_cons_succ])
  refine take_d (i := 1) (v := ?vk0102) rfl (by rfl) (by kernel_rfl) (by kernel_rfl) (by kernel_rfl) (fun _ _ _ h => h) (Or.inl ⟨by rfl, ?hk0102⟩) (by assumption) ?rk0102
  case hk0102 => (intro wS hSw; (try dsimp only at hSw); have hcq0 := cn hSw c1; go_simp; try (with_reducible rfl))
  (try simp only [Act.put, List.setIfInBounds_toArray, List.set_cons_zero, List.set_cons_succ])
  refine take_d (i := 2) (v := ?vk0103) rfl (by rfl) (by kernel_rfl) (by kernel_rfl) (by kernel_rfl) (fun _ _ _ h => h) (Or.inl ⟨by rfl, ?hk0103⟩) (by assumption) ?rk0103
  case hk0103 => (intro wS hSw; (try dsimp only at hSw); go_simp; try (with_reducible rfl))
  (try simp only [Act.put, List.setIfInBounds_toArray, List.set_cons_zero, List.set_cons_succ])
  refine take_d (i := 3) (v := ?vk0104) rfl (by rfl) (by kernel_rfl) (by kernel_rfl) (by kernel_rfl) (fun _ _ _ h => h) (Or.inl ⟨by rfl, ?hk0104⟩) (by assumption) ?rk0104
  case hk0104 => (intro wS hSw; (try dsimp only at hSw); have hcq0 := cn hSw c2; go_simp; try (with_reducible rfl))
  (try simp only [Act.put, List.setIfInBounds_toArray, List.set_cons_zero, List.set_cons_succ])
  refine take_d (i := 4) (v := ?vk0105) rfl (by rfl) (by kernel_rfl) (by kernel_rfl) (by kernel_rfl) (fun _ _ _ h => h) (Or.inl ⟨by rfl, ?hk0105⟩) (by assumption) ?rk0105
  case hk0105 => (intro wS hSw; (try dsimp only at hSw); go_simp; try (with_reducible rfl))
  (try simp only [Act.put, List.setIfInBounds_toArray, List.set_cons_zero, List.set_cons_succ])
  refine take_d (i := 5) (v := ?vk0106) rfl (by rfl) (by kernel_rfl) (by kernel_rfl) (by kernel_rfl) (fun _ _ _ h => h) (Or.inl ⟨by rfl, ?hk0106⟩) (by assumption) ?rk0106
  case hk0106 => (intro wS hSw; (try dsimp only at hSw); go_simp; try (with_reducible rfl))
  (try simp only [Act.put, List.setIfInBounds_toArray, List.set_cons_zero, List.set_cons_succ])
  refine take_d (i := 6) (v := ?vk0107) rfl (by rfl) (by kernel_rfl) (by kernel_rfl) (by kernel_rfl) (fun _ _ _ h => h) (Or.inl ⟨by rfl, ?hk0107⟩) (by assumption) ?rk0107
  case hk0107 => (intro wS hSw; (try dsimp only at hSw); have hcq0 := cn hSw c1; go_simp; try (with_reducible rfl))
  (try simp only [Act.put, List.setIfInBounds_toArray, List.set_cons_zero, List.set_cons_succ])
  refine take_d (i := 7) (v := ?vk0108) rfl (by rfl) (by kernel_rfl) (by kernel_rfl) (by kernel_rfl) (fun _ _ _ h => h) (Or.inl ⟨by rfl, ?hk0108⟩) (by assumption) ?rk0108
  case hk0108 => (intro wS hSw; (try dsimp only at hSw); go_simp; try (with_reducible rfl))
  (try simp only [Act.put, List.setIfInBounds_toArray, List.set_cons_zero, List.set_cons_succ])
  refine take_d (i := 8) (v := ?vk0109) rfl (by rfl) (by kernel_rfl) (by kernel_rfl) (by kernel_rfl) (fun _ _ _ h => h) (Or.inl ⟨by rfl, ?hk0109⟩) (by assumption) ?rk0109
  case hk0109 => (intro wS hSw; (try dsimp only at hSw); have hcq0 := cn hSw c2; go_simp; try (with_reducible rfl))
  (try simp only [Act.put, List.setIfInBounds_toArray, List.set_cons_zero, List.set_cons_succ])
  refine take_d (i := 9) (v := ?vk01010) rfl (by rfl) (by kernel_rfl) (by kernel_rfl) (by kernel_rfl) (fun _ _ _ h => h) (Or.inl ⟨by rfl, ?hk01010⟩) (by assumption) ?rk01010
  case hk01010 => (intro wS hSw; (try dsimp only at hSw); go_simp; try (with_reducible rfl))
  (try simp only [Act.put, List.setIfInBounds_toArray, List.set_cons_zero, List.set_cons_succ])
  refine take_d (i := 10) (v := ?vk01011) rfl (by rfl) (by kernel_rfl) (by kernel_rfl) (by kernel_rfl) (fun _ _ _ h => h) (Or.inl ⟨by rfl, ?hk01011⟩) (by assumption) ?rk01011
  case hk01011 => (intro wS hSw; (try dsimp only at hSw); go_simp; try (with_reducible rfl))
  (try simp only [Act.put, List.setIfInBounds_toArray, List.set_cons_zero, List.set_cons_succ])
  refine take_d (i := 11) (v := ?vk01012) rfl (by rfl) (by kernel_rfl) (by kernel_rfl) (by kernel_rfl) (fun _ _ _ h => h) (Or.inl ⟨by rfl, ?hk01012⟩) (by assumption) ?rk01012
  case hk01012 => (intro wS hSw; (try dsimp only at hSw); go_simp; try (with_reducible rfl))
  (try simp only [Act.put, List.setIfInBounds_toArray, List.set_cons_zero, List.set_cons_succ])
  refine wpAnyH_done (by kernel_rfl) ?_ _
  replace I2 := I2.next hBk
  clear c1 c2 hl hm1 hm2 hBk
  generalize wh01028.drew = w8 at I2 ⊢
  go_wp2_with fail
  refine (HRg'.out _).mono ?_
  rintro e w9 ⟨rfl, z9⟩
  replace I2 := I2.next z9
  clear z9
  have hB := hid I2.bel
  clear I2
  go_wp2_with fail
  have G3 : TC (w9.alloc (.cells #[.int .u64 (ub R.1), .int .u64 (ub R.2)] 24)) w9.heap.size R := TC.new rfl
  have hB2 := hid (Below.alloc hB.out hB.out.size (.cells #[.int .u64 (ub R.1), .int .u64 (ub R.2)] 24))
  clear hB
  generalize w9.alloc (.cells #[.int .u64 (ub R.1), .int .u64 (ub R.2)] 24) = wx at G3 hB2 ⊢
  generalize w9.heap.size = g3 at G3 ⊢
  have hB := hB2
  clear hB2
  have s0 := G3.1
  have s1 := G3.2.1
  have s2 := G3.2.2
  go_wp2_with fail
  refine (HRl'.out _).mono ?_
  rintro e wa ⟨rfl, za⟩
  clear s0 s1 s2
  replace G3 := G3.below za
  have hB2 := hid (hB.out.trans (za.mono hB.out.size))
  clear hB za
  have hB := hB2
  clear hB2
  have s0 := G3.1
  have s1 := G3.2.1
  have s2 := G3.2.2
  go_wp2_with fail
  refine (HRh'.out _).mono ?_
  rintro e wb ⟨rfl, zb⟩
  clear s0 s1 s2
  replace G3 := G3.below zb
  have hB2 := hid (hB.out.trans (zb.mono hB.out.size))
  clear hB zb
  have hB := hB2
  clear hB2
  have s0 := G3.1
  have s1 := G3.2.1
  have s2 := G3.2.2
  by_cases hx1 : ub lo ≤ ub n0
  · by_cases hx2 : ub n0 ≤ ub hi
    · have HRx2 := hid (fun W => HRx'.out W ⟨hx1, hx2⟩)
      clear HRx'
      go_wp2_with fail
      refine (HRx2.out _).mono ?_
      rintro e wc ⟨rfl, zc⟩
      clear s0 s1 s2
      replace G3 := G3.below zc
      have hB2 := hid (hB.out.trans (zc.mono hB.out.size))
      clear hB zc
      have hB := hB2
      clear hB2
      have s0 := G3.1
      have s1 := G3.2.1
      have s2 := G3.2.2
      have e1 := hr1'.out
      have e2 := hr2'.out
      have e3 := hr3'.out
      clear hr1' hr2' hr3'
      by_cases hq : lo = hi
      · have e5 : (lo == hi) = true := by rw [hq]; exact beq_self_eq_true hi
        have e6 : (R.2 == 0#64) = true := by rw [← e2, e5]
        clear e2 hr4' hq
        go_wp2
        go_ret
        exact ⟨rfl, hB.out⟩
      · have e4 := hr4'.out hq
        have e5 : (lo == hi) = false := beq_eq_false_iff_ne.2 hq
        have e6 : (R.2 == 0#64) = false := by rw [← e2, e5]
        clear e2 hr4' hq
        go_wp2
        go_ret
        exact ⟨rfl, hB.out⟩
    · clear HRx'
      have e1 := hr1'.out
      have e2 := hr2'.out
      have e3 := hr3'.out
      clear hr1' hr2' hr3'
      by_cases hq : lo = hi
      · have e5 : (lo == hi) = true := by rw [hq]; exact beq_self_eq_true hi
        have e6 : (R.2 == 0#64) = true := by rw [← e2, e5]
        clear e2 hr4' hq
        go_wp2
        go_ret
        exact ⟨rfl, hB.out⟩
      · have e4 := hr4'.out hq
        have e5 : (lo == hi) = false := beq_eq_false_iff_ne.2 hq
        have e6 : (R.2 == 0#64) = false := by rw [← e2, e5]
        clear e2 hr4' hq
        go_wp2
        go_ret
        exact ⟨rfl, hB.out⟩
  · clear HRx'
    have e1 := hr1'.out
    have e2 := hr2'.out
    have e3 := hr3'.out
    clear hr1' hr2' hr3'
    by_cases hq : lo = hi
    · have e5 : (lo == hi) = true := by rw [hq]; exact beq_self_eq_true hi
      have e6 : (R.2 == 0#64) = true := by rw [← e2, e5]
      clear e2 hr4' hq
      go_wp2
      go_ret
      exact ⟨rfl, hB.out⟩
    · have e4 := hr4'.out hq
      have e5 : (lo == hi) = false := beq_eq_false_iff_ne.2 hq
      have e6 : (R.2 == 0#64) = false := by rw [← e2, e5]
      clear e2 hr4' hq
      go_wp2
      go_ret
      exact ⟨rfl, hB.out⟩
set_option maxRecDepth 100000 in
set_option maxHeartbeats 8000000 in
theorem holds_001 (a b : Tn) (n0 n1 n2 : B64) (w : World) (ha : tmay a = true) (hb : tmay b = true) (h1 : thas a n0 = false) (h2 : thas b n0 = true) (h3 : meetB a b = false) (lo hi : B64)
    (hmin : min (ub n1) (ub n2) = ub lo) (hmax : max (ub n1) (ub n2) = ub hi) (hlh : ub lo ≤ ub hi) : Calls Try.prog 10 #[tv a, tv b, .agg #[.int .u64 (ub n0), .int .u64 (ub n1), .int .u64 (ub n2)]] w fun e w' => e = .returned (.bool true) ∧ Below w.heap.size w w' := by
  have hmh := meet_has ha hb n0
  have hjh := join_has ha hb n0
  rw [h3, h1, h2] at hmh
  rw [h1, h2] at hjh
  have HAW := hid awake_true
  have HA := fun W => tMay_any a W
  have HB := fun W => tMay_any b W
  rw [ha] at HA
  rw [hb] at HB
  have HX1 := fun W => tMeet_any a b W
  rw [h3] at HX1
  have HX2 := fun W => tJoin_any a b W
  rw [show bothT a b (joinT a b) = joinT a b by unfold bothT; rw [ha, hb]; rfl, show bothE a b = 0 by unfold bothE; rw [ha, hb]; rfl] at HX2
  have HHa := fun W => tHas_any a n0 W
  have HHb := fun W => tHas_any b n0 W
  rw [h1] at HHa
  rw [h2] at HHb
  have HHm := fun W => tHas_any (meetT a b) n0 W
  have HHj := fun W => tHas_any (joinT a b) n0 W
  have HRg := fun W => tRange_any lo hi W
  rw [show rangeT lo hi = rgT lo hi by unfold rangeT; rw [if_neg (by omega)]; rfl, show rangeE lo hi = 0 by unfold rangeE; rw [if_neg (by omega)]] at HRg
  have HRl := fun W => tHas_any (rgT lo hi) lo W
  have HRh := fun W => tHas_any (rgT lo hi) hi W
  rw [rg_lo] at HRl
  rw [rg_hi] at HRh
  have HRx := fun W (h : ub lo ≤ ub n0 ∧ ub n0 ≤ ub hi) => (rg_mid h.1 h.2) ▸ tHas_any (rgT lo hi) n0 W
  generalize thas (meetT a b) n0 = vm at hmh HHm
  generalize thas (joinT a b) n0 = vj at hjh HHj
  obtain ⟨M, hM⟩ : ∃ M, M = (if false then meetT a b else t0) := ⟨_, rfl⟩
  rw [← hM] at HX1
  have hMm : false = true → M = meetT a b := fun h => by rw [hM, h]; rfl
  clear hM h1 h2 h3 ha hb
  have hmm : false = true → ∀ W, Calls Try.prog 46 #[tv M, .int .u64 (ub n0)] W fun e w' => e = .returned (.bool vm) ∧ Below W.heap.size W w' := fun h W => by rw [hMm h]; exact HHm W
  clear HHm hMm
  generalize joinT a b = J at HX2 HHj
  have hr1 := low_and (LL lo hi) (LL_le lo hi)
  rw [← rg_m] at hr1
  have hr2 := rg_eq lo hi
  have hr3 := rg_out lo hi
  have hr4 := fun h : lo ≠ hi => rg_big h
  generalize rgT lo hi = R at *
  unfold tv at HA HB HX1 HX2 HHa HHb HHj HRg HRl HRh HRx hmm ⊢
  have HA' := hid HA
  have HB' := hid HB
  have HX1' := hid HX1
  have HX2' := hid HX2
  have HHa' := hid HHa
  have HHb' := hid HHb
  have HHj' := hid HHj
  have HHm' := hid hmm
  have HRg' := hid HRg
  have HRl' := hid HRl
  have HRh' := hid HRh
  have HRx' := hid HRx
  have hmh' := hid hmh
  have hjh' := hid hjh
  have hr1' := hid hr1
  have hr2' := hid hr2
  have hr3' := hid hr3
  have hr4' := hid hr4
  have hmin' := hid hmin
  have hmax' := hid hmax
  clear HA HB HX1 HX2 HHa HHb HHj hmm HRg HRl HRh HRx hmh hjh hr1 hr2 hr3 hr4 hmin hmax
  go_enter Try.func10, Try.ntmps10
  go_wp2_with fail
  refine (HAW.out _).mono ?_
  rintro e w1 ⟨rfl, z1⟩
  have I : HoI w a b n0 n1 n2 w1 := ⟨((TC.new rfl).alloc _ |>.alloc _).below z1, ((TC.new (by simp)).alloc _).below z1, (AC.new (by simp)).below z1, ((((Below.refl _ _).alloc (Nat.le_refl _) _).alloc (by simp) _).alloc (by simp; omega) _).trans (z1.mono (by simp; omega))⟩
  clear z1
  have p0 := I.ca.1
  have q0 := I.ca.2.1
  have r0 := I.ca.2.2
  have p1 := I.cb.1
  have q1 := I.cb.2.1
  have r1 := I.cb.2.2
  go_wp2_with fail
  refine (HA'.out _).mono ?_
  rintro e w2 ⟨rfl, z2⟩
  clear p0 q0 r0 p1 q1 r1
  replace I := I.next z2
  clear z2
  have p0 := I.ca.1
  have q0 := I.ca.2.1
  have r0 := I.ca.2.2
  have p1 := I.cb.1
  have q1 := I.cb.2.1
  have r1 := I.cb.2.2
  go_wp2_with fail
  refine (HB'.out _).mono ?_
  rintro e w3 ⟨rfl, z3⟩
  clear p0 q0 r0 p1 q1 r1
  replace I := I.next z3
  clear z3
  have p0 := I.ca.1
  have q0 := I.ca.2.1
  have r0 := I.ca.2.2
  have p1 := I.cb.1
  have q1 := I.cb.2.1
  have r1 := I.cb.2.2
  go_wp2_with fail
  refine (HX1'.out _).mono ?_
  rintro e w4 ⟨rfl, z4⟩
  clear p0 q0 r0 p1 q1 r1
  replace I := I.next z4
  clear z4
  have p0 := I.ca.1
  have q0 := I.ca.2.1
  have r0 := I.ca.2.2
  have p1 := I.cb.1
  have q1 := I.cb.2.1
  have r1 := I.cb.2.2
  go_wp2_with fail
  refine (HX2'.out _).mono ?_
  rintro e w5 ⟨rfl, z5⟩
  clear p0 q0 r0 p1 q1 r1
  have G1 : TC w5 w4.heap.size M := (TC.new rfl).below z5
  replace I := (I.next ((Below.refl _ _).alloc (Nat.le_refl _) (.cells #[.int .u64 (ub M.1), .int .u64 (ub M.2)] 24))).next z5
  clear z5
  have p0 := I.ca.1
  have q0 := I.ca.2.1
  have r0 := I.ca.2.2
  have p1 := I.cb.1
  have q1 := I.cb.2.1
  have r1 := I.cb.2.2
  have x1 := I.cc.2.1
  have x2 := I.cc.1
  go_wp2_with fail
  clear p0 q0 r0 p1 q1 r1 x1 x2
  replace I := I.next ((Below.refl w5.heap.size w5).alloc (Nat.le_refl _) (.cells #[.int .u64 (ub J.1), .int .u64 (ub J.2)] 24))
  replace G1 := G1.alloc (.cells #[.int .u64 (ub J.1), .int .u64 (ub J.2)] 24)
  have G2 : TC (w5.alloc (.cells #[.int .u64 (ub J.1), .int .u64 (ub J.2)] 24)) w5.heap.size J := TC.new rfl
  generalize w5.alloc (.cells #[.int .u64 (ub J.1), .int .u64 (ub J.2)] 24) = w6 at I G1 G2 ⊢
  generalize w4.heap.size = g1 at G1 ⊢
  generalize w5.heap.size = g2 at G2 ⊢
  have JI := hid (show HoJ w a b n0 n1 n2 g1 M g2 J w6 from ⟨I, G1, G2⟩)
  have q0 := I.ca.2.1
  have r0 := I.ca.2.2
  have q1 := I.cb.2.1
  have r1 := I.cb.2.2
  have q2 := G1.2.1
  have r2 := G1.2.2
  have q3 := G2.2.1
  have r3 := G2.2.2
  clear I G1 G2
  obtain rfl : vj = true := hjh'.out (by simp)
  clear hmh' hjh' HHm'
  refine wp_region_held_drew (S := (fun w' : World => Below w6.heap.size w6 w')) (by kernel_rfl) ?_ (fun hHeld => ?_)
  · (try dsimp only); first | (with_reducible exact below_dr _) | (with_reducible exact Below.refl _ _) | exact below_dr _
  have hBk := below_dr w6
  refine take_d (i := 0) (v := ?vh0011) rfl (by rfl) (by kernel_rfl) (by kernel_rfl) (by kernel_rfl) (fun _ _ _ h => h) (Or.inl ⟨by rfl, ?hh0011⟩) (by assumption) ?rh0011
  case hh0011 => (intro wS hSw; (try dsimp only at hSw); go_simp; try (with_reducible rfl))
  (try simp only [Act.put, List.setIfInBounds_toArray, List.set_cons_zero, List.set_cons_succ])
  refine take_d (i := 1) (v := ?vh0012) rfl (by rfl) (by kernel_rfl) (by kernel_rfl) (by kernel_rfl) (fun _ _ _ h => h) (Or.inl ⟨by rfl, ?hh0012⟩) (by assumption) ?rh0012
  case hh0012 => (intro wS hSw; (try dsimp only at hSw); go_simp; try (with_reducible rfl))
  (try simp only [Act.put, List.setIfInBounds_toArray, List.set_cons_zero, List.set_cons_succ])
  refine take_d (i := 2) (v := undef) rfl (by rfl) (by kernel_rfl) (by kernel_rfl) (by kernel_rfl) (fun _ _ _ h => h) (Or.inr ⟨by rfl, rfl⟩) (by assumption) ?rh0013
  (try simp only [Act.put, List.setIfInBounds_toArray, List.set_cons_zero, List.set_cons_succ])
  refine take_d (i := 3) (v := undef) rfl (by rfl) (by kernel_rfl) (by kernel_rfl) (by kernel_rfl) (fun _ _ _ h => h) (Or.inr ⟨by rfl, rfl⟩) (by assumption) ?rh0014
  (try simp only [Act.put, List.setIfInBounds_toArray, List.set_cons_zero, List.set_cons_succ])
  refine take_d (i := 4) (v := undef) rfl (by rfl) (by kernel_rfl) (by kernel_rfl) (by kernel_rfl) (fun _ _ _ h => h) (Or.inr ⟨by rfl, rfl⟩) (by assumption) ?rh0015
  (try simp only [Act.put, List.setIfInBounds_toArray, List.set_cons_zero, List.set_cons_succ])
  refine take_d (i := 5) (v := ?vh0016) rfl (by rfl) (by kernel_rfl) (by kernel_rfl) (by kernel_rfl) (fun _ _ _ h => h) (Or.inl ⟨by rfl, ?hh0016⟩) (by assumption) ?rh0016
  case hh0016 => (intro wS hSw; (try dsimp only at hSw); go_simp; try (with_reducible rfl))
  (try simp only [Act.put, List.setIfInBounds_toArray, List.set_cons_zero, List.set_cons_succ])
  refine take_d (i := 6) (v := ?vh0017) rfl (by rfl) (by kernel_rfl) (by kernel_rfl) (by kernel_rfl) (fun _ _ _ h => h) (Or.inl ⟨by rfl, ?hh0017⟩) (by assumption) ?rh0017
  case hh0017 => (intro wS hSw; (try dsimp only at hSw); have hcq0 := cn hSw q0; have hcq1 := cn hSw r0; go_simp; try (with_reducible rfl))
  (try simp only [Act.put, List.setIfInBounds_toArray, List.set_cons_zero, List.set_cons_succ])
  refine take_d (i := 7) (v := ?vh0018) rfl (by rfl) (by kernel_rfl) (by kernel_rfl) (by kernel_rfl) (fun _ _ _ h => h) (Or.inl ⟨by rfl, ?hh0018⟩) (by assumption) ?rh0018
  case hh0018 => (intro wS hSw; (try dsimp only at hSw); go_simp; try (with_reducible rfl))
  (try simp only [Act.put, List.setIfInBounds_toArray, List.set_cons_zero, List.set_cons_succ])
  refine wpAnyH_ready (rs := [8]) (by kernel_rfl) (by simp) ?_
  refine AllReadyH.cons rfl (fun K hK => ?_) AllReadyH.nil
  go_simp
  go_at_call 46
  refine (HHa'.out _).mono ?_
  rintro e wh0019 ⟨rfl, bkh0019⟩
  have hBn := below_next hBk bkh0019
  clear hBk bkh0019
  have hBk := hBn
  clear hBn
  try go_simp
  refine hK.out _ _ ?_ (fun hHeld => ?_)
  · (try dsimp only); exact hBk
  clear hK K
  (try simp only [Act.put, List.setIfInBounds_toArray, List.set_cons_zero, List.set_cons_succ])
  refine take_d (i := 9) (v := ?vh00110) rfl (by rfl) (by kernel_rfl) (by kernel_rfl) (by kernel_rfl) (fun _ _ _ h => h) (Or.inl ⟨by rfl, ?hh00110⟩) (by assumption) ?rh00110
  case hh00110 => (intro wS hSw; (try dsimp only at hSw); go_simp; try (with_reducible rfl))
  (try simp only [Act.put, List.setIfInBounds_toArray, List.set_cons_zero, List.set_cons_succ])
  refine take_d (i := 10) (v := undef) rfl (by rfl) (by kernel_rfl) (by kernel_rfl) (by kernel_rfl) (fun _ _ _ h => h) (Or.inr ⟨by rfl, rfl⟩) (by assumption) ?rh00111
  (try simp only [Act.put, List.setIfInBounds_toArray, List.set_cons_zero, List.set_cons_succ])
  refine take_d (i := 11) (v := undef) rfl (by rfl) (by kernel_rfl) (by kernel_rfl) (by kernel_rfl) (fun _ _ _ h => h) (Or.inr ⟨by rfl, rfl⟩) (by assumption) ?rh00112
  (try simp only [Act.put, List.setIfInBounds_toArray, List.set_cons_zero, List.set_cons_succ])
  refine take_d (i := 12) (v := undef) rfl (by rfl) (by kernel_rfl) (by kernel_rfl) (by kernel_rfl) (fun _ _ _ h => h) (Or.inr ⟨by rfl, rfl⟩) (by assumption) ?rh00113
  (try simp only [Act.put, List.setIfInBounds_toArray, List.set_cons_zero, List.set_cons_succ])
  refine take_d (i := 13) (v := ?vh00114) rfl (by rfl) (by kernel_rfl) (by kernel_rfl) (by kernel_rfl) (fun _ _ _ h => h) (Or.inl ⟨by rfl, ?hh00114⟩) (by assumption) ?rh00114
  case hh00114 => (intro wS hSw; (try dsimp only at hSw); go_simp; try (with_reducible rfl))
  (try simp only [Act.put, List.setIfInBounds_toArray, List.set_cons_zero, List.set_cons_succ])
  refine take_d (i := 14) (v := ?vh00115) rfl (by rfl) (by kernel_rfl) (by kernel_rfl) (by kernel_rfl) (fun _ _ _ h => h) (Or.inl ⟨by rfl, ?hh00115⟩) (by assumption) ?rh00115
  case hh00115 => (intro wS hSw; (try dsimp only at hSw); go_simp; try (with_reducible rfl))
  (try simp only [Act.put, List.setIfInBounds_toArray, List.set_cons_zero, List.set_cons_succ])
  refine take_d (i := 15) (v := ?vh00116) rfl (by rfl) (by kernel_rfl) (by kernel_rfl) (by kernel_rfl) (fun _ _ _ h => h) (Or.inl ⟨by rfl, ?hh00116⟩) (by assumption) ?rh00116
  case hh00116 => (intro wS hSw; (try dsimp only at hSw); go_simp; try (with_reducible rfl))
  (try simp only [Act.put, List.setIfInBounds_toArray, List.set_cons_zero, List.set_cons_succ])
  refine take_d (i := 16) (v := ?vh00117) rfl (by rfl) (by kernel_rfl) (by kernel_rfl) (by kernel_rfl) (fun _ _ _ h => h) (Or.inl ⟨by rfl, ?hh00117⟩) (by assumption) ?rh00117
  case hh00117 => (intro wS hSw; (try dsimp only at hSw); have hcq0 := cn hSw q0; have hcq1 := cn hSw r0; go_simp; try (with_reducible rfl))
  (try simp only [Act.put, List.setIfInBounds_toArray, List.set_cons_zero, List.set_cons_succ])
  refine take_d (i := 17) (v := ?vh00118) rfl (by rfl) (by kernel_rfl) (by kernel_rfl) (by kernel_rfl) (fun _ _ _ h => h) (Or.inl ⟨by rfl, ?hh00118⟩) (by assumption) ?rh00118
  case hh00118 => (intro wS hSw; (try dsimp only at hSw); go_simp; try (with_reducible rfl))
  (try simp only [Act.put, List.setIfInBounds_toArray, List.set_cons_zero, List.set_cons_succ])
  refine wpAnyH_ready (rs := [18]) (by kernel_rfl) (by simp) ?_
  refine AllReadyH.cons rfl (fun K hK => ?_) AllReadyH.nil
  go_simp
  go_at_call 46
  refine (HHa'.out _).mono ?_
  rintro e wh00119 ⟨rfl, bkh00119⟩
  have hBn := below_next hBk bkh00119
  clear hBk bkh00119
  have hBk := hBn
  clear hBn
  try go_simp
  refine hK.out _ _ ?_ (fun hHeld => ?_)
  · (try dsimp only); exact hBk
  clear hK K
  (try simp only [Act.put, List.setIfInBounds_toArray, List.set_cons_zero, List.set_cons_succ])
  refine take_d (i := 19) (v := ?vh00120) rfl (by rfl) (by kernel_rfl) (by kernel_rfl) (by kernel_rfl) (fun _ _ _ h => h) (Or.inl ⟨by rfl, ?hh00120⟩) (by assumption) ?rh00120
  case hh00120 => (intro wS hSw; (try dsimp only at hSw); go_simp; try (with_reducible rfl))
  (try simp only [Act.put, List.setIfInBounds_toArray, List.set_cons_zero, List.set_cons_succ])
  refine take_d (i := 20) (v := ?vh00121) rfl (by rfl) (by kernel_rfl) (by kernel_rfl) (by kernel_rfl) (fun _ _ _ h => h) (Or.inl ⟨by rfl, ?hh00121⟩) (by assumption) ?rh00121
  case hh00121 => (intro wS hSw; (try dsimp only at hSw); have hcq0 := cn hSw q1; have hcq1 := cn hSw r1; go_simp; try (with_reducible rfl))
  (try simp only [Act.put, List.setIfInBounds_toArray, List.set_cons_zero, List.set_cons_succ])
  refine take_d (i := 21) (v := ?vh00122) rfl (by rfl) (by kernel_rfl) (by kernel_rfl) (by kernel_rfl) (fun _ _ _ h => h) (Or.inl ⟨by rfl, ?hh00122⟩) (by assumption) ?rh00122
  case hh00122 => (intro wS hSw; (try dsimp only at hSw); go_simp; try (with_reducible rfl))
  (try simp only [Act.put, List.setIfInBounds_toArray, List.set_cons_zero, List.set_cons_succ])
  refine wpAnyH_ready (rs := [22]) (by kernel_rfl) (by simp) ?_
  refine AllReadyH.cons rfl (fun K hK => ?_) AllReadyH.nil
  go_simp
  go_at_call 46
  refine (HHb'.out _).mono ?_
  rintro e wh00123 ⟨rfl, bkh00123⟩
  have hBn := below_next hBk bkh00123
  clear hBk bkh00123
  have hBk := hBn
  clear hBn
  try go_simp
  refine hK.out _ _ ?_ (fun hHeld => ?_)
  · (try dsimp only); exact hBk
  clear hK K
  (try simp only [Act.put, List.setIfInBounds_toArray, List.set_cons_zero, List.set_cons_succ])
  refine take_d (i := 23) (v := ?vh00124) rfl (by rfl) (by kernel_rfl) (by kernel_rfl) (by kernel_rfl) (fun _ _ _ h => h) (Or.inl ⟨by rfl, ?hh00124⟩) (by assumption) ?rh00124
  case hh00124 => (intro wS hSw; (try dsimp only at hSw); go_simp; try (with_reducible rfl))
  (try simp only [Act.put, List.setIfInBounds_toArray, List.set_cons_zero, List.set_cons_succ])
  refine take_d (i := 24) (v := ?vh00125) rfl (by rfl) (by kernel_rfl) (by kernel_rfl) (by kernel_rfl) (fun _ _ _ h => h) (Or.inl ⟨by rfl, ?hh00125⟩) (by assumption) ?rh00125
  case hh00125 => (intro wS hSw; (try dsimp only at hSw); go_simp; try (with_reducible rfl))
  (try simp only [Act.put, List.setIfInBounds_toArray, List.set_cons_zero, List.set_cons_succ])
  refine take_d (i := 25) (v := ?vh00126) rfl (by rfl) (by kernel_rfl) (by kernel_rfl) (by kernel_rfl) (fun _ _ _ h => h) (Or.inl ⟨by rfl, ?hh00126⟩) (by assumption) ?rh00126
  case hh00126 => (intro wS hSw; (try dsimp only at hSw); have hcq0 := cn hSw q3; have hcq1 := cn hSw r3; go_simp; try (with_reducible rfl))
  (try simp only [Act.put, List.setIfInBounds_toArray, List.set_cons_zero, List.set_cons_succ])
  refine take_d (i := 26) (v := ?vh00127) rfl (by rfl) (by kernel_rfl) (by kernel_rfl) (by kernel_rfl) (fun _ _ _ h => h) (Or.inl ⟨by rfl, ?hh00127⟩) (by assumption) ?rh00127
  case hh00127 => (intro wS hSw; (try dsimp only at hSw); go_simp; try (with_reducible rfl))
  (try simp only [Act.put, List.setIfInBounds_toArray, List.set_cons_zero, List.set_cons_succ])
  refine wpAnyH_ready (rs := [27]) (by kernel_rfl) (by simp) ?_
  refine AllReadyH.cons rfl (fun K hK => ?_) AllReadyH.nil
  go_simp
  go_at_call 46
  refine (HHj'.out _).mono ?_
  rintro e wh00128 ⟨rfl, bkh00128⟩
  have hBn := below_next hBk bkh00128
  clear hBk bkh00128
  have hBk := hBn
  clear hBn
  try go_simp
  refine hK.out _ _ ?_ (fun hHeld => ?_)
  · (try dsimp only); exact hBk
  clear hK K
  (try simp only [Act.put, List.setIfInBounds_toArray, List.set_cons_zero, List.set_cons_succ])
  refine take_d (i := 28) (v := ?vh00129) rfl (by rfl) (by kernel_rfl) (by kernel_rfl) (by kernel_rfl) (fun _ _ _ h => h) (Or.inl ⟨by rfl, ?hh00129⟩) (by assumption) ?rh00129
  case hh00129 => (intro wS hSw; (try dsimp only at hSw); go_simp; try (with_reducible rfl))
  (try simp only [Act.put, List.setIfInBounds_toArray, List.set_cons_zero, List.set_cons_succ])
  refine take_d (i := 29) (v := ?vh00130) rfl (by rfl) (by kernel_rfl) (by kernel_rfl) (by kernel_rfl) (fun _ _ _ h => h) (Or.inl ⟨by rfl, ?hh00130⟩) (by assumption) ?rh00130
  case hh00130 => (intro wS hSw; (try dsimp only at hSw); go_simp; try (with_reducible rfl))
  (try simp only [Act.put, List.setIfInBounds_toArray, List.set_cons_zero, List.set_cons_succ])
  refine take_d (i := 30) (v := ?vh00131) rfl (by rfl) (by kernel_rfl) (by kernel_rfl) (by kernel_rfl) (fun _ _ _ h => h) (Or.inl ⟨by rfl, ?hh00131⟩) (by assumption) ?rh00131
  case hh00131 => (intro wS hSw; (try dsimp only at hSw); go_simp; try (with_reducible rfl))
  (try simp only [Act.put, List.setIfInBounds_toArray, List.set_cons_zero, List.set_cons_succ])
  refine wpAnyH_done (by kernel_rfl) ?_ _
  have J2 := JI.out.next hBk
  clear JI hBk q0 r0 q1 r1 q2 r2 q3 r3 HHa' HHb' HHj'
  have I2 := J2.i
  clear J2
  have c1 := I2.cc.2.2.1
  have c2 := I2.cc.2.2.2
  have hl := I2.cc.1
  have hm1 := hmin'.out
  have hm2 := hmax'.out
  go_wp2_with fail
  refine wp_region_held_drew (S := (fun w' : World => Below wh00128.heap.size wh00128 w')) (by kernel_rfl) ?_ (fun hHeld => ?_)
  · (try dsimp only); first | (with_reducible exact below_dr _) | (with_reducible exact Below.refl _ _) | exact below_dr _
  have hBk := below_dr wh00128
  refine take_d (i := 0) (v := ?vk0011) rfl (by rfl) (by kernel_rfl) (by kernel_rfl) (by kernel_rfl) (fun _ _ _ h => h) (Or.inl ⟨by rfl, ?hk0011⟩) (by assumption) ?rk0011
  case hk0011 => (intro wS hSw; (try dsimp only at hSw); go_simp; try (with_reducible rfl))
  (try simp only [Act.put, List.setIfInBounds_toArray, List.set_cons_zero, List.set_cons_succ])
  refine take_d (i := 1) (v := ?vk0012) rfl (by rfl) (by kernel_rfl) (by kernel_rfl) (by kernel_rfl) (fun _ _ _ h => h) (Or.inl ⟨by rfl, ?hk0012⟩) (by assumption) ?rk0012
  case hk0012 => (intro wS hSw; (try dsimp only at hSw); have hcq0 := cn hSw c1; go_simp; try (with_reducible rfl))
  (try simp only [Act.put, List.setIfInBounds_toArray, List.set_cons_zero, List.set_cons_succ])
  refine take_d (i := 2) (v := ?vk0013) rfl (by rfl) (by kernel_rfl) (by kernel_rfl) (by kernel_rfl) (fun _ _ _ h => h) (Or.inl ⟨by rfl, ?hk0013⟩) (by assumption) ?rk0013
  case hk0013 => (intro wS hSw; (try dsimp only at hSw); go_simp; try (with_reducible rfl))
  (try simp only [Act.put, List.setIfInBounds_toArray, List.set_cons_zero, List.set_cons_succ])
  refine take_d (i := 3) (v := ?vk0014) rfl (by rfl) (by kernel_rfl) (by kernel_rfl) (by kernel_rfl) (fun _ _ _ h => h) (Or.inl ⟨by rfl, ?hk0014⟩) (by assumption) ?rk0014
  case hk0014 => (intro wS hSw; (try dsimp only at hSw); have hcq0 := cn hSw c2; go_simp; try (with_reducible rfl))
  (try simp only [Act.put, List.setIfInBounds_toArray, List.set_cons_zero, List.set_cons_succ])
  refine take_d (i := 4) (v := ?vk0015) rfl (by rfl) (by kernel_rfl) (by kernel_rfl) (by kernel_rfl) (fun _ _ _ h => h) (Or.inl ⟨by rfl, ?hk0015⟩) (by assumption) ?rk0015
  case hk0015 => (intro wS hSw; (try dsimp only at hSw); go_simp; try (with_reducible rfl))
  (try simp only [Act.put, List.setIfInBounds_toArray, List.set_cons_zero, List.set_cons_succ])
  refine take_d (i := 5) (v := ?vk0016) rfl (by rfl) (by kernel_rfl) (by kernel_rfl) (by kernel_rfl) (fun _ _ _ h => h) (Or.inl ⟨by rfl, ?hk0016⟩) (by assumption) ?rk0016
  case hk0016 => (intro wS hSw; (try dsimp only at hSw); go_simp; try (with_reducible rfl))
  (try simp only [Act.put, List.setIfInBounds_toArray, List.set_cons_zero, List.set_cons_succ])
  refine take_d (i := 6) (v := ?vk0017) rfl (by rfl) (by kernel_rfl) (by kernel_rfl) (by kernel_rfl) (fun _ _ _ h => h) (Or.inl ⟨by rfl, ?hk0017⟩) (by assumption) ?rk0017
  case hk0017 => (intro wS hSw; (try dsimp only at hSw); have hcq0 := cn hSw c1; go_simp; try (with_reducible rfl))
  (try simp only [Act.put, List.setIfInBounds_toArray, List.set_cons_zero, List.set_cons_succ])
  refine take_d (i := 7) (v := ?vk0018) rfl (by rfl) (by kernel_rfl) (by kernel_rfl) (by kernel_rfl) (fun _ _ _ h => h) (Or.inl ⟨by rfl, ?hk0018⟩) (by assumption) ?rk0018
  case hk0018 => (intro wS hSw; (try dsimp only at hSw); go_simp; try (with_reducible rfl))
  (try simp only [Act.put, List.setIfInBounds_toArray, List.set_cons_zero, List.set_cons_succ])
  refine take_d (i := 8) (v := ?vk0019) rfl (by rfl) (by kernel_rfl) (by kernel_rfl) (by kernel_rfl) (fun _ _ _ h => h) (Or.inl ⟨by rfl, ?hk0019⟩) (by assumption) ?rk0019
  case hk0019 => (intro wS hSw; (try dsimp only at hSw); have hcq0 := cn hSw c2; go_simp; try (with_reducible rfl))
  (try simp only [Act.put, List.setIfInBounds_toArray, List.set_cons_zero, List.set_cons_succ])
  refine take_d (i := 9) (v := ?vk00110) rfl (by rfl) (by kernel_rfl) (by kernel_rfl) (by kernel_rfl) (fun _ _ _ h => h) (Or.inl ⟨by rfl, ?hk00110⟩) (by assumption) ?rk00110
  case hk00110 => (intro wS hSw; (try dsimp only at hSw); go_simp; try (with_reducible rfl))
  (try simp only [Act.put, List.setIfInBounds_toArray, List.set_cons_zero, List.set_cons_succ])
  refine take_d (i := 10) (v := ?vk00111) rfl (by rfl) (by kernel_rfl) (by kernel_rfl) (by kernel_rfl) (fun _ _ _ h => h) (Or.inl ⟨by rfl, ?hk00111⟩) (by assumption) ?rk00111
  case hk00111 => (intro wS hSw; (try dsimp only at hSw); go_simp; try (with_reducible rfl))
  (try simp only [Act.put, List.setIfInBounds_toArray, List.set_cons_zero, List.set_cons_succ])
  refine take_d (i := 11) (v := ?vk00112) rfl (by rfl) (by kernel_rfl) (by kernel_rfl) (by kernel_rfl) (fun _ _ _ h => h) (Or.inl ⟨by rfl, ?hk00112⟩) (by assumption) ?rk00112
  case hk00112 => (intro wS hSw; (try dsimp only at hSw); go_simp; try (with_reducible rfl))
  (try simp only [Act.put, List.setIfInBounds_toArray, List.set_cons_zero, List.set_cons_succ])
  refine wpAnyH_done (by kernel_rfl) ?_ _
  replace I2 := I2.next hBk
  clear c1 c2 hl hm1 hm2 hBk
  generalize wh00128.drew = w8 at I2 ⊢
  go_wp2_with fail
  refine (HRg'.out _).mono ?_
  rintro e w9 ⟨rfl, z9⟩
  replace I2 := I2.next z9
  clear z9
  have hB := hid I2.bel
  clear I2
  go_wp2_with fail
  have G3 : TC (w9.alloc (.cells #[.int .u64 (ub R.1), .int .u64 (ub R.2)] 24)) w9.heap.size R := TC.new rfl
  have hB2 := hid (Below.alloc hB.out hB.out.size (.cells #[.int .u64 (ub R.1), .int .u64 (ub R.2)] 24))
  clear hB
  generalize w9.alloc (.cells #[.int .u64 (ub R.1), .int .u64 (ub R.2)] 24) = wx at G3 hB2 ⊢
  generalize w9.heap.size = g3 at G3 ⊢
  have hB := hB2
  clear hB2
  have s0 := G3.1
  have s1 := G3.2.1
  have s2 := G3.2.2
  go_wp2_with fail
  refine (HRl'.out _).mono ?_
  rintro e wa ⟨rfl, za⟩
  clear s0 s1 s2
  replace G3 := G3.below za
  have hB2 := hid (hB.out.trans (za.mono hB.out.size))
  clear hB za
  have hB := hB2
  clear hB2
  have s0 := G3.1
  have s1 := G3.2.1
  have s2 := G3.2.2
  go_wp2_with fail
  refine (HRh'.out _).mono ?_
  rintro e wb ⟨rfl, zb⟩
  clear s0 s1 s2
  replace G3 := G3.below zb
  have hB2 := hid (hB.out.trans (zb.mono hB.out.size))
  clear hB zb
  have hB := hB2
  clear hB2
  have s0 := G3.1
  have s1 := G3.2.1
  have s2 := G3.2.2
  by_cases hx1 : ub lo ≤ ub n0
  · by_cases hx2 : ub n0 ≤ ub hi
    · have HRx2 := hid (fun W => HRx'.out W ⟨hx1, hx2⟩)
      clear HRx'
      go_wp2_with fail
      refine (HRx2.out _).mono ?_
      rintro e wc ⟨rfl, zc⟩
      clear s0 s1 s2
      replace G3 := G3.below zc
      have hB2 := hid (hB.out.trans (zc.mono hB.out.size))
      clear hB zc
      have hB := hB2
      clear hB2
      have s0 := G3.1
      have s1 := G3.2.1
      have s2 := G3.2.2
      have e1 := hr1'.out
      have e2 := hr2'.out
      have e3 := hr3'.out
      clear hr1' hr2' hr3'
      by_cases hq : lo = hi
      · have e5 : (lo == hi) = true := by rw [hq]; exact beq_self_eq_true hi
        have e6 : (R.2 == 0#64) = true := by rw [← e2, e5]
        clear e2 hr4' hq
        go_wp2
        go_ret
        exact ⟨rfl, hB.out⟩
      · have e4 := hr4'.out hq
        have e5 : (lo == hi) = false := beq_eq_false_iff_ne.2 hq
        have e6 : (R.2 == 0#64) = false := by rw [← e2, e5]
        clear e2 hr4' hq
        go_wp2
        go_ret
        exact ⟨rfl, hB.out⟩
    · clear HRx'
      have e1 := hr1'.out
      have e2 := hr2'.out
      have e3 := hr3'.out
      clear hr1' hr2' hr3'
      by_cases hq : lo = hi
      · have e5 : (lo == hi) = true := by rw [hq]; exact beq_self_eq_true hi
        have e6 : (R.2 == 0#64) = true := by rw [← e2, e5]
        clear e2 hr4' hq
        go_wp2
        go_ret
        exact ⟨rfl, hB.out⟩
      · have e4 := hr4'.out hq
        have e5 : (lo == hi) = false := beq_eq_false_iff_ne.2 hq
        have e6 : (R.2 == 0#64) = false := by rw [← e2, e5]
        clear e2 hr4' hq
        go_wp2
        go_ret
        exact ⟨rfl, hB.out⟩
  · clear HRx'
    have e1 := hr1'.out
    have e2 := hr2'.out
    have e3 := hr3'.out
    clear hr1' hr2' hr3'
    by_cases hq : lo = hi
    · have e5 : (lo == hi) = true := by rw [hq]; exact beq_self_eq_true hi
      have e6 : (R.2 == 0#64) = true := by rw [← e2, e5]
      clear e2 hr4' hq
      go_wp2
      go_ret
      exact ⟨rfl, hB.out⟩
    · have e4 := hr4'.out hq
      have e5 : (lo == hi) = false := beq_eq_false_iff_ne.2 hq
      have e6 : (R.2 == 0#64) = false := by rw [← e2, e5]
      clear e2 hr4' hq
      go_wp2
      go_ret
      exact ⟨rfl, hB.out⟩
set_option maxRecDepth 100000 in
set_option maxHeartbeats 8000000 in
theorem holds_000 (a b : Tn) (n0 n1 n2 : B64) (w : World) (ha : tmay a = true) (hb : tmay b = true) (h1 : thas a n0 = false) (h2 : thas b n0 = false) (h3 : meetB a b = false) (lo hi : B64)
    (hmin : min (ub n1) (ub n2) = ub lo) (hmax : max (ub n1) (ub n2) = ub hi) (hlh : ub lo ≤ ub hi) : Calls Try.prog 10 #[tv a, tv b, .agg #[.int .u64 (ub n0), .int .u64 (ub n1), .int .u64 (ub n2)]] w fun e w' => e = .returned (.bool true) ∧ Below w.heap.size w w' := by
  have hmh := meet_has ha hb n0
  have hjh := join_has ha hb n0
  rw [h3, h1, h2] at hmh
  rw [h1, h2] at hjh
  have HAW := hid awake_true
  have HA := fun W => tMay_any a W
  have HB := fun W => tMay_any b W
  rw [ha] at HA
  rw [hb] at HB
  have HX1 := fun W => tMeet_any a b W
  rw [h3] at HX1
  have HX2 := fun W => tJoin_any a b W
  rw [show bothT a b (joinT a b) = joinT a b by unfold bothT; rw [ha, hb]; rfl, show bothE a b = 0 by unfold bothE; rw [ha, hb]; rfl] at HX2
  have HHa := fun W => tHas_any a n0 W
  have HHb := fun W => tHas_any b n0 W
  rw [h1] at HHa
  rw [h2] at HHb
  have HHm := fun W => tHas_any (meetT a b) n0 W
  have HHj := fun W => tHas_any (joinT a b) n0 W
  have HRg := fun W => tRange_any lo hi W
  rw [show rangeT lo hi = rgT lo hi by unfold rangeT; rw [if_neg (by omega)]; rfl, show rangeE lo hi = 0 by unfold rangeE; rw [if_neg (by omega)]] at HRg
  have HRl := fun W => tHas_any (rgT lo hi) lo W
  have HRh := fun W => tHas_any (rgT lo hi) hi W
  rw [rg_lo] at HRl
  rw [rg_hi] at HRh
  have HRx := fun W (h : ub lo ≤ ub n0 ∧ ub n0 ≤ ub hi) => (rg_mid h.1 h.2) ▸ tHas_any (rgT lo hi) n0 W
  generalize thas (meetT a b) n0 = vm at hmh HHm
  generalize thas (joinT a b) n0 = vj at hjh HHj
  obtain ⟨M, hM⟩ : ∃ M, M = (if false then meetT a b else t0) := ⟨_, rfl⟩
  rw [← hM] at HX1
  have hMm : false = true → M = meetT a b := fun h => by rw [hM, h]; rfl
  clear hM h1 h2 h3 ha hb
  have hmm : false = true → ∀ W, Calls Try.prog 46 #[tv M, .int .u64 (ub n0)] W fun e w' => e = .returned (.bool vm) ∧ Below W.heap.size W w' := fun h W => by rw [hMm h]; exact HHm W
  clear HHm hMm
  generalize joinT a b = J at HX2 HHj
  have hr1 := low_and (LL lo hi) (LL_le lo hi)
  rw [← rg_m] at hr1
  have hr2 := rg_eq lo hi
  have hr3 := rg_out lo hi
  have hr4 := fun h : lo ≠ hi => rg_big h
  generalize rgT lo hi = R at *
  unfold tv at HA HB HX1 HX2 HHa HHb HHj HRg HRl HRh HRx hmm ⊢
  have HA' := hid HA
  have HB' := hid HB
  have HX1' := hid HX1
  have HX2' := hid HX2
  have HHa' := hid HHa
  have HHb' := hid HHb
  have HHj' := hid HHj
  have HHm' := hid hmm
  have HRg' := hid HRg
  have HRl' := hid HRl
  have HRh' := hid HRh
  have HRx' := hid HRx
  have hmh' := hid hmh
  have hjh' := hid hjh
  have hr1' := hid hr1
  have hr2' := hid hr2
  have hr3' := hid hr3
  have hr4' := hid hr4
  have hmin' := hid hmin
  have hmax' := hid hmax
  clear HA HB HX1 HX2 HHa HHb HHj hmm HRg HRl HRh HRx hmh hjh hr1 hr2 hr3 hr4 hmin hmax
  go_enter Try.func10, Try.ntmps10
  go_wp2_with fail
  refine (HAW.out _).mono ?_
  rintro e w1 ⟨rfl, z1⟩
  have I : HoI w a b n0 n1 n2 w1 := ⟨((TC.new rfl).alloc _ |>.alloc _).below z1, ((TC.new (by simp)).alloc _).below z1, (AC.new (by simp)).below z1, ((((Below.refl _ _).alloc (Nat.le_refl _) _).alloc (by simp) _).alloc (by simp; omega) _).trans (z1.mono (by simp; omega))⟩
  clear z1
  have p0 := I.ca.1
  have q0 := I.ca.2.1
  have r0 := I.ca.2.2
  have p1 := I.cb.1
  have q1 := I.cb.2.1
  have r1 := I.cb.2.2
  go_wp2_with fail
  refine (HA'.out _).mono ?_
  rintro e w2 ⟨rfl, z2⟩
  clear p0 q0 r0 p1 q1 r1
  replace I := I.next z2
  clear z2
  have p0 := I.ca.1
  have q0 := I.ca.2.1
  have r0 := I.ca.2.2
  have p1 := I.cb.1
  have q1 := I.cb.2.1
  have r1 := I.cb.2.2
  go_wp2_with fail
  refine (HB'.out _).mono ?_
  rintro e w3 ⟨rfl, z3⟩
  clear p0 q0 r0 p1 q1 r1
  replace I := I.next z3
  clear z3
  have p0 := I.ca.1
  have q0 := I.ca.2.1
  have r0 := I.ca.2.2
  have p1 := I.cb.1
  have q1 := I.cb.2.1
  have r1 := I.cb.2.2
  go_wp2_with fail
  refine (HX1'.out _).mono ?_
  rintro e w4 ⟨rfl, z4⟩
  clear p0 q0 r0 p1 q1 r1
  replace I := I.next z4
  clear z4
  have p0 := I.ca.1
  have q0 := I.ca.2.1
  have r0 := I.ca.2.2
  have p1 := I.cb.1
  have q1 := I.cb.2.1
  have r1 := I.cb.2.2
  go_wp2_with fail
  refine (HX2'.out _).mono ?_
  rintro e w5 ⟨rfl, z5⟩
  clear p0 q0 r0 p1 q1 r1
  have G1 : TC w5 w4.heap.size M := (TC.new rfl).below z5
  replace I := (I.next ((Below.refl _ _).alloc (Nat.le_refl _) (.cells #[.int .u64 (ub M.1), .int .u64 (ub M.2)] 24))).next z5
  clear z5
  have p0 := I.ca.1
  have q0 := I.ca.2.1
  have r0 := I.ca.2.2
  have p1 := I.cb.1
  have q1 := I.cb.2.1
  have r1 := I.cb.2.2
  have x1 := I.cc.2.1
  have x2 := I.cc.1
  go_wp2_with fail
  clear p0 q0 r0 p1 q1 r1 x1 x2
  replace I := I.next ((Below.refl w5.heap.size w5).alloc (Nat.le_refl _) (.cells #[.int .u64 (ub J.1), .int .u64 (ub J.2)] 24))
  replace G1 := G1.alloc (.cells #[.int .u64 (ub J.1), .int .u64 (ub J.2)] 24)
  have G2 : TC (w5.alloc (.cells #[.int .u64 (ub J.1), .int .u64 (ub J.2)] 24)) w5.heap.size J := TC.new rfl
  generalize w5.alloc (.cells #[.int .u64 (ub J.1), .int .u64 (ub J.2)] 24) = w6 at I G1 G2 ⊢
  generalize w4.heap.size = g1 at G1 ⊢
  generalize w5.heap.size = g2 at G2 ⊢
  have JI := hid (show HoJ w a b n0 n1 n2 g1 M g2 J w6 from ⟨I, G1, G2⟩)
  have q0 := I.ca.2.1
  have r0 := I.ca.2.2
  have q1 := I.cb.2.1
  have r1 := I.cb.2.2
  have q2 := G1.2.1
  have r2 := G1.2.2
  have q3 := G2.2.1
  have r3 := G2.2.2
  clear I G1 G2
  clear hmh' hjh' HHm'
  refine wp_region_held_drew (S := (fun w' : World => Below w6.heap.size w6 w')) (by kernel_rfl) ?_ (fun hHeld => ?_)
  · (try dsimp only); first | (with_reducible exact below_dr _) | (with_reducible exact Below.refl _ _) | exact below_dr _
  have hBk := below_dr w6
  refine take_d (i := 0) (v := ?vh0001) rfl (by rfl) (by kernel_rfl) (by kernel_rfl) (by kernel_rfl) (fun _ _ _ h => h) (Or.inl ⟨by rfl, ?hh0001⟩) (by assumption) ?rh0001
  case hh0001 => (intro wS hSw; (try dsimp only at hSw); go_simp; try (with_reducible rfl))
  (try simp only [Act.put, List.setIfInBounds_toArray, List.set_cons_zero, List.set_cons_succ])
  refine take_d (i := 1) (v := ?vh0002) rfl (by rfl) (by kernel_rfl) (by kernel_rfl) (by kernel_rfl) (fun _ _ _ h => h) (Or.inl ⟨by rfl, ?hh0002⟩) (by assumption) ?rh0002
  case hh0002 => (intro wS hSw; (try dsimp only at hSw); go_simp; try (with_reducible rfl))
  (try simp only [Act.put, List.setIfInBounds_toArray, List.set_cons_zero, List.set_cons_succ])
  refine take_d (i := 2) (v := undef) rfl (by rfl) (by kernel_rfl) (by kernel_rfl) (by kernel_rfl) (fun _ _ _ h => h) (Or.inr ⟨by rfl, rfl⟩) (by assumption) ?rh0003
  (try simp only [Act.put, List.setIfInBounds_toArray, List.set_cons_zero, List.set_cons_succ])
  refine take_d (i := 3) (v := undef) rfl (by rfl) (by kernel_rfl) (by kernel_rfl) (by kernel_rfl) (fun _ _ _ h => h) (Or.inr ⟨by rfl, rfl⟩) (by assumption) ?rh0004
  (try simp only [Act.put, List.setIfInBounds_toArray, List.set_cons_zero, List.set_cons_succ])
  refine take_d (i := 4) (v := undef) rfl (by rfl) (by kernel_rfl) (by kernel_rfl) (by kernel_rfl) (fun _ _ _ h => h) (Or.inr ⟨by rfl, rfl⟩) (by assumption) ?rh0005
  (try simp only [Act.put, List.setIfInBounds_toArray, List.set_cons_zero, List.set_cons_succ])
  refine take_d (i := 5) (v := ?vh0006) rfl (by rfl) (by kernel_rfl) (by kernel_rfl) (by kernel_rfl) (fun _ _ _ h => h) (Or.inl ⟨by rfl, ?hh0006⟩) (by assumption) ?rh0006
  case hh0006 => (intro wS hSw; (try dsimp only at hSw); go_simp; try (with_reducible rfl))
  (try simp only [Act.put, List.setIfInBounds_toArray, List.set_cons_zero, List.set_cons_succ])
  refine take_d (i := 6) (v := ?vh0007) rfl (by rfl) (by kernel_rfl) (by kernel_rfl) (by kernel_rfl) (fun _ _ _ h => h) (Or.inl ⟨by rfl, ?hh0007⟩) (by assumption) ?rh0007
  case hh0007 => (intro wS hSw; (try dsimp only at hSw); have hcq0 := cn hSw q0; have hcq1 := cn hSw r0; go_simp; try (with_reducible rfl))
  (try simp only [Act.put, List.setIfInBounds_toArray, List.set_cons_zero, List.set_cons_succ])
  refine take_d (i := 7) (v := ?vh0008) rfl (by rfl) (by kernel_rfl) (by kernel_rfl) (by kernel_rfl) (fun _ _ _ h => h) (Or.inl ⟨by rfl, ?hh0008⟩) (by assumption) ?rh0008
  case hh0008 => (intro wS hSw; (try dsimp only at hSw); go_simp; try (with_reducible rfl))
  (try simp only [Act.put, List.setIfInBounds_toArray, List.set_cons_zero, List.set_cons_succ])
  refine wpAnyH_ready (rs := [8]) (by kernel_rfl) (by simp) ?_
  refine AllReadyH.cons rfl (fun K hK => ?_) AllReadyH.nil
  go_simp
  go_at_call 46
  refine (HHa'.out _).mono ?_
  rintro e wh0009 ⟨rfl, bkh0009⟩
  have hBn := below_next hBk bkh0009
  clear hBk bkh0009
  have hBk := hBn
  clear hBn
  try go_simp
  refine hK.out _ _ ?_ (fun hHeld => ?_)
  · (try dsimp only); exact hBk
  clear hK K
  (try simp only [Act.put, List.setIfInBounds_toArray, List.set_cons_zero, List.set_cons_succ])
  refine take_d (i := 9) (v := ?vh00010) rfl (by rfl) (by kernel_rfl) (by kernel_rfl) (by kernel_rfl) (fun _ _ _ h => h) (Or.inl ⟨by rfl, ?hh00010⟩) (by assumption) ?rh00010
  case hh00010 => (intro wS hSw; (try dsimp only at hSw); go_simp; try (with_reducible rfl))
  (try simp only [Act.put, List.setIfInBounds_toArray, List.set_cons_zero, List.set_cons_succ])
  refine take_d (i := 10) (v := undef) rfl (by rfl) (by kernel_rfl) (by kernel_rfl) (by kernel_rfl) (fun _ _ _ h => h) (Or.inr ⟨by rfl, rfl⟩) (by assumption) ?rh00011
  (try simp only [Act.put, List.setIfInBounds_toArray, List.set_cons_zero, List.set_cons_succ])
  refine take_d (i := 11) (v := undef) rfl (by rfl) (by kernel_rfl) (by kernel_rfl) (by kernel_rfl) (fun _ _ _ h => h) (Or.inr ⟨by rfl, rfl⟩) (by assumption) ?rh00012
  (try simp only [Act.put, List.setIfInBounds_toArray, List.set_cons_zero, List.set_cons_succ])
  refine take_d (i := 12) (v := undef) rfl (by rfl) (by kernel_rfl) (by kernel_rfl) (by kernel_rfl) (fun _ _ _ h => h) (Or.inr ⟨by rfl, rfl⟩) (by assumption) ?rh00013
  (try simp only [Act.put, List.setIfInBounds_toArray, List.set_cons_zero, List.set_cons_succ])
  refine take_d (i := 13) (v := ?vh00014) rfl (by rfl) (by kernel_rfl) (by kernel_rfl) (by kernel_rfl) (fun _ _ _ h => h) (Or.inl ⟨by rfl, ?hh00014⟩) (by assumption) ?rh00014
  case hh00014 => (intro wS hSw; (try dsimp only at hSw); go_simp; try (with_reducible rfl))
  (try simp only [Act.put, List.setIfInBounds_toArray, List.set_cons_zero, List.set_cons_succ])
  refine take_d (i := 14) (v := ?vh00015) rfl (by rfl) (by kernel_rfl) (by kernel_rfl) (by kernel_rfl) (fun _ _ _ h => h) (Or.inl ⟨by rfl, ?hh00015⟩) (by assumption) ?rh00015
  case hh00015 => (intro wS hSw; (try dsimp only at hSw); go_simp; try (with_reducible rfl))
  (try simp only [Act.put, List.setIfInBounds_toArray, List.set_cons_zero, List.set_cons_succ])
  refine take_d (i := 15) (v := ?vh00016) rfl (by rfl) (by kernel_rfl) (by kernel_rfl) (by kernel_rfl) (fun _ _ _ h => h) (Or.inl ⟨by rfl, ?hh00016⟩) (by assumption) ?rh00016
  case hh00016 => (intro wS hSw; (try dsimp only at hSw); go_simp; try (with_reducible rfl))
  (try simp only [Act.put, List.setIfInBounds_toArray, List.set_cons_zero, List.set_cons_succ])
  refine take_d (i := 16) (v := ?vh00017) rfl (by rfl) (by kernel_rfl) (by kernel_rfl) (by kernel_rfl) (fun _ _ _ h => h) (Or.inl ⟨by rfl, ?hh00017⟩) (by assumption) ?rh00017
  case hh00017 => (intro wS hSw; (try dsimp only at hSw); have hcq0 := cn hSw q0; have hcq1 := cn hSw r0; go_simp; try (with_reducible rfl))
  (try simp only [Act.put, List.setIfInBounds_toArray, List.set_cons_zero, List.set_cons_succ])
  refine take_d (i := 17) (v := ?vh00018) rfl (by rfl) (by kernel_rfl) (by kernel_rfl) (by kernel_rfl) (fun _ _ _ h => h) (Or.inl ⟨by rfl, ?hh00018⟩) (by assumption) ?rh00018
  case hh00018 => (intro wS hSw; (try dsimp only at hSw); go_simp; try (with_reducible rfl))
  (try simp only [Act.put, List.setIfInBounds_toArray, List.set_cons_zero, List.set_cons_succ])
  refine wpAnyH_ready (rs := [18]) (by kernel_rfl) (by simp) ?_
  refine AllReadyH.cons rfl (fun K hK => ?_) AllReadyH.nil
  go_simp
  go_at_call 46
  refine (HHa'.out _).mono ?_
  rintro e wh00019 ⟨rfl, bkh00019⟩
  have hBn := below_next hBk bkh00019
  clear hBk bkh00019
  have hBk := hBn
  clear hBn
  try go_simp
  refine hK.out _ _ ?_ (fun hHeld => ?_)
  · (try dsimp only); exact hBk
  clear hK K
  (try simp only [Act.put, List.setIfInBounds_toArray, List.set_cons_zero, List.set_cons_succ])
  refine take_d (i := 19) (v := ?vh00020) rfl (by rfl) (by kernel_rfl) (by kernel_rfl) (by kernel_rfl) (fun _ _ _ h => h) (Or.inl ⟨by rfl, ?hh00020⟩) (by assumption) ?rh00020
  case hh00020 => (intro wS hSw; (try dsimp only at hSw); go_simp; try (with_reducible rfl))
  (try simp only [Act.put, List.setIfInBounds_toArray, List.set_cons_zero, List.set_cons_succ])
  refine take_d (i := 20) (v := ?vh00021) rfl (by rfl) (by kernel_rfl) (by kernel_rfl) (by kernel_rfl) (fun _ _ _ h => h) (Or.inl ⟨by rfl, ?hh00021⟩) (by assumption) ?rh00021
  case hh00021 => (intro wS hSw; (try dsimp only at hSw); have hcq0 := cn hSw q1; have hcq1 := cn hSw r1; go_simp; try (with_reducible rfl))
  (try simp only [Act.put, List.setIfInBounds_toArray, List.set_cons_zero, List.set_cons_succ])
  refine take_d (i := 21) (v := ?vh00022) rfl (by rfl) (by kernel_rfl) (by kernel_rfl) (by kernel_rfl) (fun _ _ _ h => h) (Or.inl ⟨by rfl, ?hh00022⟩) (by assumption) ?rh00022
  case hh00022 => (intro wS hSw; (try dsimp only at hSw); go_simp; try (with_reducible rfl))
  (try simp only [Act.put, List.setIfInBounds_toArray, List.set_cons_zero, List.set_cons_succ])
  refine wpAnyH_ready (rs := [22]) (by kernel_rfl) (by simp) ?_
  refine AllReadyH.cons rfl (fun K hK => ?_) AllReadyH.nil
  go_simp
  go_at_call 46
  refine (HHb'.out _).mono ?_
  rintro e wh00023 ⟨rfl, bkh00023⟩
  have hBn := below_next hBk bkh00023
  clear hBk bkh00023
  have hBk := hBn
  clear hBn
  try go_simp
  refine hK.out _ _ ?_ (fun hHeld => ?_)
  · (try dsimp only); exact hBk
  clear hK K
  (try simp only [Act.put, List.setIfInBounds_toArray, List.set_cons_zero, List.set_cons_succ])
  refine take_d (i := 23) (v := ?vh00024) rfl (by rfl) (by kernel_rfl) (by kernel_rfl) (by kernel_rfl) (fun _ _ _ h => h) (Or.inl ⟨by rfl, ?hh00024⟩) (by assumption) ?rh00024
  case hh00024 => (intro wS hSw; (try dsimp only at hSw); go_simp; try (with_reducible rfl))
  (try simp only [Act.put, List.setIfInBounds_toArray, List.set_cons_zero, List.set_cons_succ])
  refine take_d (i := 24) (v := ?vh00025) rfl (by rfl) (by kernel_rfl) (by kernel_rfl) (by kernel_rfl) (fun _ _ _ h => h) (Or.inl ⟨by rfl, ?hh00025⟩) (by assumption) ?rh00025
  case hh00025 => (intro wS hSw; (try dsimp only at hSw); go_simp; try (with_reducible rfl))
  (try simp only [Act.put, List.setIfInBounds_toArray, List.set_cons_zero, List.set_cons_succ])
  refine take_d (i := 25) (v := undef) rfl (by rfl) (by kernel_rfl) (by kernel_rfl) (by kernel_rfl) (fun _ _ _ h => h) (Or.inr ⟨by rfl, rfl⟩) (by assumption) ?rh00026
  (try simp only [Act.put, List.setIfInBounds_toArray, List.set_cons_zero, List.set_cons_succ])
  refine take_d (i := 26) (v := undef) rfl (by rfl) (by kernel_rfl) (by kernel_rfl) (by kernel_rfl) (fun _ _ _ h => h) (Or.inr ⟨by rfl, rfl⟩) (by assumption) ?rh00027
  (try simp only [Act.put, List.setIfInBounds_toArray, List.set_cons_zero, List.set_cons_succ])
  refine take_d (i := 27) (v := undef) rfl (by rfl) (by kernel_rfl) (by kernel_rfl) (by kernel_rfl) (fun _ _ _ h => h) (Or.inr ⟨by rfl, rfl⟩) (by assumption) ?rh00028
  (try simp only [Act.put, List.setIfInBounds_toArray, List.set_cons_zero, List.set_cons_succ])
  refine take_d (i := 28) (v := undef) rfl (by rfl) (by kernel_rfl) (by kernel_rfl) (by kernel_rfl) (fun _ _ _ h => h) (Or.inr ⟨by rfl, rfl⟩) (by assumption) ?rh00029
  (try simp only [Act.put, List.setIfInBounds_toArray, List.set_cons_zero, List.set_cons_succ])
  refine take_d (i := 29) (v := ?vh00030) rfl (by rfl) (by kernel_rfl) (by kernel_rfl) (by kernel_rfl) (fun _ _ _ h => h) (Or.inl ⟨by rfl, ?hh00030⟩) (by assumption) ?rh00030
  case hh00030 => (intro wS hSw; (try dsimp only at hSw); go_simp; try (with_reducible rfl))
  (try simp only [Act.put, List.setIfInBounds_toArray, List.set_cons_zero, List.set_cons_succ])
  refine take_d (i := 30) (v := ?vh00031) rfl (by rfl) (by kernel_rfl) (by kernel_rfl) (by kernel_rfl) (fun _ _ _ h => h) (Or.inl ⟨by rfl, ?hh00031⟩) (by assumption) ?rh00031
  case hh00031 => (intro wS hSw; (try dsimp only at hSw); go_simp; try (with_reducible rfl))
  (try simp only [Act.put, List.setIfInBounds_toArray, List.set_cons_zero, List.set_cons_succ])
  refine wpAnyH_done (by kernel_rfl) ?_ _
  have J2 := JI.out.next hBk
  clear JI hBk q0 r0 q1 r1 q2 r2 q3 r3 HHa' HHb' HHj'
  have I2 := J2.i
  clear J2
  have c1 := I2.cc.2.2.1
  have c2 := I2.cc.2.2.2
  have hl := I2.cc.1
  have hm1 := hmin'.out
  have hm2 := hmax'.out
  go_wp2_with fail
  refine wp_region_held_drew (S := (fun w' : World => Below wh00023.heap.size wh00023 w')) (by kernel_rfl) ?_ (fun hHeld => ?_)
  · (try dsimp only); first | (with_reducible exact below_dr _) | (with_reducible exact Below.refl _ _) | exact below_dr _
  have hBk := below_dr wh00023
  refine take_d (i := 0) (v := ?vk0001) rfl (by rfl) (by kernel_rfl) (by kernel_rfl) (by kernel_rfl) (fun _ _ _ h => h) (Or.inl ⟨by rfl, ?hk0001⟩) (by assumption) ?rk0001
  case hk0001 => (intro wS hSw; (try dsimp only at hSw); go_simp; try (with_reducible rfl))
  (try simp only [Act.put, List.setIfInBounds_toArray, List.set_cons_zero, List.set_cons_succ])
  refine take_d (i := 1) (v := ?vk0002) rfl (by rfl) (by kernel_rfl) (by kernel_rfl) (by kernel_rfl) (fun _ _ _ h => h) (Or.inl ⟨by rfl, ?hk0002⟩) (by assumption) ?rk0002
  case hk0002 => (intro wS hSw; (try dsimp only at hSw); have hcq0 := cn hSw c1; go_simp; try (with_reducible rfl))
  (try simp only [Act.put, List.setIfInBounds_toArray, List.set_cons_zero, List.set_cons_succ])
  refine take_d (i := 2) (v := ?vk0003) rfl (by rfl) (by kernel_rfl) (by kernel_rfl) (by kernel_rfl) (fun _ _ _ h => h) (Or.inl ⟨by rfl, ?hk0003⟩) (by assumption) ?rk0003
  case hk0003 => (intro wS hSw; (try dsimp only at hSw); go_simp; try (with_reducible rfl))
  (try simp only [Act.put, List.setIfInBounds_toArray, List.set_cons_zero, List.set_cons_succ])
  refine take_d (i := 3) (v := ?vk0004) rfl (by rfl) (by kernel_rfl) (by kernel_rfl) (by kernel_rfl) (fun _ _ _ h => h) (Or.inl ⟨by rfl, ?hk0004⟩) (by assumption) ?rk0004
  case hk0004 => (intro wS hSw; (try dsimp only at hSw); have hcq0 := cn hSw c2; go_simp; try (with_reducible rfl))
  (try simp only [Act.put, List.setIfInBounds_toArray, List.set_cons_zero, List.set_cons_succ])
  refine take_d (i := 4) (v := ?vk0005) rfl (by rfl) (by kernel_rfl) (by kernel_rfl) (by kernel_rfl) (fun _ _ _ h => h) (Or.inl ⟨by rfl, ?hk0005⟩) (by assumption) ?rk0005
  case hk0005 => (intro wS hSw; (try dsimp only at hSw); go_simp; try (with_reducible rfl))
  (try simp only [Act.put, List.setIfInBounds_toArray, List.set_cons_zero, List.set_cons_succ])
  refine take_d (i := 5) (v := ?vk0006) rfl (by rfl) (by kernel_rfl) (by kernel_rfl) (by kernel_rfl) (fun _ _ _ h => h) (Or.inl ⟨by rfl, ?hk0006⟩) (by assumption) ?rk0006
  case hk0006 => (intro wS hSw; (try dsimp only at hSw); go_simp; try (with_reducible rfl))
  (try simp only [Act.put, List.setIfInBounds_toArray, List.set_cons_zero, List.set_cons_succ])
  refine take_d (i := 6) (v := ?vk0007) rfl (by rfl) (by kernel_rfl) (by kernel_rfl) (by kernel_rfl) (fun _ _ _ h => h) (Or.inl ⟨by rfl, ?hk0007⟩) (by assumption) ?rk0007
  case hk0007 => (intro wS hSw; (try dsimp only at hSw); have hcq0 := cn hSw c1; go_simp; try (with_reducible rfl))
  (try simp only [Act.put, List.setIfInBounds_toArray, List.set_cons_zero, List.set_cons_succ])
  refine take_d (i := 7) (v := ?vk0008) rfl (by rfl) (by kernel_rfl) (by kernel_rfl) (by kernel_rfl) (fun _ _ _ h => h) (Or.inl ⟨by rfl, ?hk0008⟩) (by assumption) ?rk0008
  case hk0008 => (intro wS hSw; (try dsimp only at hSw); go_simp; try (with_reducible rfl))
  (try simp only [Act.put, List.setIfInBounds_toArray, List.set_cons_zero, List.set_cons_succ])
  refine take_d (i := 8) (v := ?vk0009) rfl (by rfl) (by kernel_rfl) (by kernel_rfl) (by kernel_rfl) (fun _ _ _ h => h) (Or.inl ⟨by rfl, ?hk0009⟩) (by assumption) ?rk0009
  case hk0009 => (intro wS hSw; (try dsimp only at hSw); have hcq0 := cn hSw c2; go_simp; try (with_reducible rfl))
  (try simp only [Act.put, List.setIfInBounds_toArray, List.set_cons_zero, List.set_cons_succ])
  refine take_d (i := 9) (v := ?vk00010) rfl (by rfl) (by kernel_rfl) (by kernel_rfl) (by kernel_rfl) (fun _ _ _ h => h) (Or.inl ⟨by rfl, ?hk00010⟩) (by assumption) ?rk00010
  case hk00010 => (intro wS hSw; (try dsimp only at hSw); go_simp; try (with_reducible rfl))
  (try simp only [Act.put, List.setIfInBounds_toArray, List.set_cons_zero, List.set_cons_succ])
  refine take_d (i := 10) (v := ?vk00011) rfl (by rfl) (by kernel_rfl) (by kernel_rfl) (by kernel_rfl) (fun _ _ _ h => h) (Or.inl ⟨by rfl, ?hk00011⟩) (by assumption) ?rk00011
  case hk00011 => (intro wS hSw; (try dsimp only at hSw); go_simp; try (with_reducible rfl))
  (try simp only [Act.put, List.setIfInBounds_toArray, List.set_cons_zero, List.set_cons_succ])
  refine take_d (i := 11) (v := ?vk00012) rfl (by rfl) (by kernel_rfl) (by kernel_rfl) (by kernel_rfl) (fun _ _ _ h => h) (Or.inl ⟨by rfl, ?hk00012⟩) (by assumption) ?rk00012
  case hk00012 => (intro wS hSw; (try dsimp only at hSw); go_simp; try (with_reducible rfl))
  (try simp only [Act.put, List.setIfInBounds_toArray, List.set_cons_zero, List.set_cons_succ])
  refine wpAnyH_done (by kernel_rfl) ?_ _
  replace I2 := I2.next hBk
  clear c1 c2 hl hm1 hm2 hBk
  generalize wh00023.drew = w8 at I2 ⊢
  go_wp2_with fail
  refine (HRg'.out _).mono ?_
  rintro e w9 ⟨rfl, z9⟩
  replace I2 := I2.next z9
  clear z9
  have hB := hid I2.bel
  clear I2
  go_wp2_with fail
  have G3 : TC (w9.alloc (.cells #[.int .u64 (ub R.1), .int .u64 (ub R.2)] 24)) w9.heap.size R := TC.new rfl
  have hB2 := hid (Below.alloc hB.out hB.out.size (.cells #[.int .u64 (ub R.1), .int .u64 (ub R.2)] 24))
  clear hB
  generalize w9.alloc (.cells #[.int .u64 (ub R.1), .int .u64 (ub R.2)] 24) = wx at G3 hB2 ⊢
  generalize w9.heap.size = g3 at G3 ⊢
  have hB := hB2
  clear hB2
  have s0 := G3.1
  have s1 := G3.2.1
  have s2 := G3.2.2
  go_wp2_with fail
  refine (HRl'.out _).mono ?_
  rintro e wa ⟨rfl, za⟩
  clear s0 s1 s2
  replace G3 := G3.below za
  have hB2 := hid (hB.out.trans (za.mono hB.out.size))
  clear hB za
  have hB := hB2
  clear hB2
  have s0 := G3.1
  have s1 := G3.2.1
  have s2 := G3.2.2
  go_wp2_with fail
  refine (HRh'.out _).mono ?_
  rintro e wb ⟨rfl, zb⟩
  clear s0 s1 s2
  replace G3 := G3.below zb
  have hB2 := hid (hB.out.trans (zb.mono hB.out.size))
  clear hB zb
  have hB := hB2
  clear hB2
  have s0 := G3.1
  have s1 := G3.2.1
  have s2 := G3.2.2
  by_cases hx1 : ub lo ≤ ub n0
  · by_cases hx2 : ub n0 ≤ ub hi
    · have HRx2 := hid (fun W => HRx'.out W ⟨hx1, hx2⟩)
      clear HRx'
      go_wp2_with fail
      refine (HRx2.out _).mono ?_
      rintro e wc ⟨rfl, zc⟩
      clear s0 s1 s2
      replace G3 := G3.below zc
      have hB2 := hid (hB.out.trans (zc.mono hB.out.size))
      clear hB zc
      have hB := hB2
      clear hB2
      have s0 := G3.1
      have s1 := G3.2.1
      have s2 := G3.2.2
      have e1 := hr1'.out
      have e2 := hr2'.out
      have e3 := hr3'.out
      clear hr1' hr2' hr3'
      by_cases hq : lo = hi
      · have e5 : (lo == hi) = true := by rw [hq]; exact beq_self_eq_true hi
        have e6 : (R.2 == 0#64) = true := by rw [← e2, e5]
        clear e2 hr4' hq
        go_wp2
        go_ret
        exact ⟨rfl, hB.out⟩
      · have e4 := hr4'.out hq
        have e5 : (lo == hi) = false := beq_eq_false_iff_ne.2 hq
        have e6 : (R.2 == 0#64) = false := by rw [← e2, e5]
        clear e2 hr4' hq
        go_wp2
        go_ret
        exact ⟨rfl, hB.out⟩
    · clear HRx'
      have e1 := hr1'.out
      have e2 := hr2'.out
      have e3 := hr3'.out
      clear hr1' hr2' hr3'
      by_cases hq : lo = hi
      · have e5 : (lo == hi) = true := by rw [hq]; exact beq_self_eq_true hi
        have e6 : (R.2 == 0#64) = true := by rw [← e2, e5]
        clear e2 hr4' hq
        go_wp2
        go_ret
        exact ⟨rfl, hB.out⟩
      · have e4 := hr4'.out hq
        have e5 : (lo == hi) = false := beq_eq_false_iff_ne.2 hq
        have e6 : (R.2 == 0#64) = false := by rw [← e2, e5]
        clear e2 hr4' hq
        go_wp2
        go_ret
        exact ⟨rfl, hB.out⟩
  · clear HRx'
    have e1 := hr1'.out
    have e2 := hr2'.out
    have e3 := hr3'.out
    clear hr1' hr2' hr3'
    by_cases hq : lo = hi
    · have e5 : (lo == hi) = true := by rw [hq]; exact beq_self_eq_true hi
      have e6 : (R.2 == 0#64) = true := by rw [← e2, e5]
      clear e2 hr4' hq
      go_wp2
      go_ret
      exact ⟨rfl, hB.out⟩
    · have e4 := hr4'.out hq
      have e5 : (lo == hi) = false := beq_eq_false_iff_ne.2 hq
      have e6 : (R.2 == 0#64) = false := by rw [← e2, e5]
      clear e2 hr4' hq
      go_wp2
      go_ret
      exact ⟨rfl, hB.out⟩
end Go.Proofs.Ytoanbjnhoggpjaa
