/-
  TnumOrder: the three may be: the walk, way by way.
-/
import Derived.Test.YtoanbjnhoggpjaaTnOa
namespace Go.Proofs.Ytoanbjnhoggpjaa
set_option linter.unusedSimpArgs false
set_option linter.unusedVariables false
open Go.ChangeShapes Go.WideShapes Go.ChangeAt Go.RowKit

set_option maxRecDepth 100000 in
set_option maxHeartbeats 8000000 in
theorem ord_p21 (a b c : Tn) (ha : tmay a = true) (hb : tmay b = true) (hc : tmay c = true) (hab : tin a b = true) (hba : tin b a = true) (hbc : tin b c = true) (w : World) : Calls Try.prog 11 #[tv a, tv b, tv c] w fun e w' => e = .returned (.bool true) ∧ Below w.heap.size w w' := by
  have HAW := hid awake_true
  have O := ord_of a b c ha hb hc
  have Ma : ∀ W, Calls Try.prog 43 #[tv a] W fun e w' => e = .returned (.bool true) ∧ Below W.heap.size W w' := fun W => ha ▸ tMay_any a W
  have Mb : ∀ W, Calls Try.prog 43 #[tv b] W fun e w' => e = .returned (.bool true) ∧ Below W.heap.size W w' := fun W => hb ▸ tMay_any b W
  have Mc : ∀ W, Calls Try.prog 43 #[tv c] W fun e w' => e = .returned (.bool true) ∧ Below W.heap.size W w' := fun W => hc ▸ tMay_any c W
  have XJ : ∀ W, Calls Try.prog 45 #[tv a, tv b] W fun e w' => e = .returned (.tuple #[tv (joinT a b), .int .i64 0]) ∧ Below W.heap.size W w' := fun W => by have := tJoin_any a b W; rwa [show bothT a b (joinT a b) = joinT a b by unfold bothT; rw [ha, hb]; rfl, show bothE a b = 0 by unfold bothE; rw [ha, hb]; rfl] at this
  have XM : ∀ W, Calls Try.prog 44 #[tv a, tv b] W fun e w' => e = .returned (.tuple #[tv (if meetB a b then meetT a b else t0), .bool (meetB a b)]) ∧ Below W.heap.size W w' := fun W => tMeet_any a b W
  have AL : ∀ W, Calls Try.prog 50 #[] W fun e w' => e = .returned (tv allT) ∧ Below W.heap.size W w' := fun W => tAll_any W
  have Iaa : ∀ W, Calls Try.prog 48 #[tv a, tv a] W fun e w' => e = .returned (.bool true) ∧ Below W.heap.size W w' := fun W => O.aa ▸ tIn_any a a W
  have Ial : ∀ W, Calls Try.prog 48 #[tv a, tv allT] W fun e w' => e = .returned (.bool true) ∧ Below W.heap.size W w' := fun W => O.al ▸ tIn_any a allT W
  have Iab : ∀ W, Calls Try.prog 48 #[tv a, tv b] W fun e w' => e = .returned (.bool true) ∧ Below W.heap.size W w' := fun W => hab ▸ tIn_any a b W
  have Iac : ∀ W, Calls Try.prog 48 #[tv a, tv c] W fun e w' => e = .returned (.bool (tin a c)) ∧ Below W.heap.size W w' := fun W => tIn_any a c W
  have Iaj : ∀ W, Calls Try.prog 48 #[tv a, tv (joinT a b)] W fun e w' => e = .returned (.bool true) ∧ Below W.heap.size W w' := fun W => O.aj ▸ tIn_any a (joinT a b) W
  have Ibj : ∀ W, Calls Try.prog 48 #[tv b, tv (joinT a b)] W fun e w' => e = .returned (.bool true) ∧ Below W.heap.size W w' := fun W => O.bj ▸ tIn_any b (joinT a b) W
  have Ijc : ∀ W, Calls Try.prog 48 #[tv (joinT a b), tv c] W fun e w' => e = .returned (.bool (tin (joinT a b) c)) ∧ Below W.heap.size W w' := fun W => tIn_any (joinT a b) c W
  have Ima : ∀ W, Calls Try.prog 48 #[tv (meetT a b), tv a] W fun e w' => e = .returned (.bool (tin (meetT a b) a)) ∧ Below W.heap.size W w' := fun W => tIn_any (meetT a b) a W
  have Imb : ∀ W, Calls Try.prog 48 #[tv (meetT a b), tv b] W fun e w' => e = .returned (.bool (tin (meetT a b) b)) ∧ Below W.heap.size W w' := fun W => tIn_any (meetT a b) b W
  have Ica : ∀ W, Calls Try.prog 48 #[tv c, tv a] W fun e w' => e = .returned (.bool (tin c a)) ∧ Below W.heap.size W w' := fun W => tIn_any c a W
  have Icb : ∀ W, Calls Try.prog 48 #[tv c, tv b] W fun e w' => e = .returned (.bool (tin c b)) ∧ Below W.heap.size W w' := fun W => tIn_any c b W
  have Icm : ∀ W, Calls Try.prog 48 #[tv c, tv (meetT a b)] W fun e w' => e = .returned (.bool (tin c (meetT a b))) ∧ Below W.heap.size W w' := fun W => tIn_any c (meetT a b) W
  have HL : ∀ W, Calls Try.prog 46 #[tv a, .int .u64 (ub a.1)] W fun e w' => e = .returned (.bool true) ∧ Below W.heap.size W w' := fun W => has_low ha ▸ tHas_any a a.1 W
  have HT : ∀ W, Calls Try.prog 46 #[tv a, .int .u64 (ub (a.1 ||| a.2))] W fun e w' => e = .returned (.bool true) ∧ Below W.heap.size W w' := fun W => has_top ha ▸ tHas_any a (a.1 ||| a.2) W
  have FR : ∀ W, Calls Try.prog 49 #[tv a] W fun e w' => e = .returned (.int .i64 (cntU a.2 64 : Int)) ∧ Below W.heap.size W w' := fun W => by have := tFree_any a W; rwa [ha, if_pos rfl] at this
  have Iba : ∀ W, Calls Try.prog 48 #[tv b, tv a] W fun e w' => e = .returned (.bool true) ∧ Below W.heap.size W w' := fun W => hba ▸ tIn_any b a W
  have Ibc : ∀ W, Calls Try.prog 48 #[tv b, tv c] W fun e w' => e = .returned (.bool true) ∧ Below W.heap.size W w' := fun W => hbc ▸ tIn_any b c W
  have hce : (((cntU a.2 64 : Nat) : Int) == 0) = (a.2 == 0#64) := by
    have := cnt_zero a.2
    rw [Bool.eq_iff_iff, beq_iff_eq, beq_iff_eq, ← this]
    omega
  have hEq : a = b := O.anti hab hba
  have tr := O.tr
  have jc := O.jc
  have mA := O.ma
  have mB := O.mb
  have cM := O.cm
  rw [hab] at tr
  rw [hbc] at tr jc
  clear O ha hb hc hab hba hbc
  generalize joinT a b = J at *
  generalize tin a c = ac at *
  generalize tin J c = jcB at *
  obtain rfl : ac = true := tr rfl rfl
  generalize ((cntU a.2 64 : Nat) : Int) = N at *
  generalize meetT a b = M0 at *
  generalize meetB a b = mk at *
  generalize tin M0 a = ma at *
  generalize tin M0 b = mb at *
  generalize tin c M0 = cm at *
  generalize tin c a = ca at *
  generalize tin c b = cb at *
  clear tr
  have hne : ∀ W : World, (binOp .neq 24 (.agg #[.int .u64 (ub a.1), .int .u64 (ub a.2)]) (.agg #[.int .u64 (ub b.1), .int .u64 (ub b.2)])).run Try.prog W = .ok (.bool false) W := by intro W; rw [← hEq]; go_simp
  clear hEq
  generalize allT = Y at *
  unfold tv at Ma Mb Mc XJ XM AL Iaa Ial Iab Iac Iaj Ibj Ijc Ima Imb Ica Icb Icm HL HT FR Iba Ibc ⊢
  replace Ma := hid Ma
  replace Mb := hid Mb
  replace Mc := hid Mc
  replace XJ := hid XJ
  replace XM := hid XM
  replace AL := hid AL
  replace Iaa := hid Iaa
  replace Ial := hid Ial
  replace Iab := hid Iab
  replace Iac := hid Iac
  replace Iaj := hid Iaj
  replace Ibj := hid Ibj
  replace Ijc := hid Ijc
  replace Ima := hid Ima
  replace Imb := hid Imb
  replace Ica := hid Ica
  replace Icb := hid Icb
  replace Icm := hid Icm
  replace HL := hid HL
  replace HT := hid HT
  replace FR := hid FR
  replace Iba := hid Iba
  replace Ibc := hid Ibc
  replace jc := hid jc
  replace mA := hid mA
  replace mB := hid mB
  replace cM := hid cM
  replace hce := hid hce
  go_enter Try.func11, Try.ntmps11
  go_wp2_with fail
  refine (HAW.out _).mono ?_
  rintro e w1 ⟨rfl, z⟩
  have JA : TC w1 w.heap.size a := ((TC.new rfl).alloc _ |>.alloc _).below z
  have JB : TC w1 (w.heap.size + 1) b := ((TC.new (by simp)).alloc _).below z
  have JC : TC w1 (w.heap.size + 1 + 1) c := (TC.new (by simp)).below z
  have B : Below w.heap.size w w1 := ((((Below.refl _ _).alloc (Nat.le_refl _) _).alloc (by simp) _).alloc (by simp; omega) _).trans (z.mono (by simp; omega))
  clear z
  have JA0 := JA.2.1
  have JA1 := JA.2.2
  have JAl := JA.1
  have JB0 := JB.2.1
  have JB1 := JB.2.2
  have JBl := JB.1
  have JC0 := JC.2.1
  have JC1 := JC.2.2
  have JCl := JC.1
  have lB := B.size
  go_wp2_with fail
  refine (Ma.out _).mono ?_
  rintro e w2 ⟨rfl, z⟩
  clear JA0 JA1 JAl JB0 JB1 JBl JC0 JC1 JCl lB
  replace JA := JA.below z
  replace JB := JB.below z
  replace JC := JC.below z
  replace B := below_next B z
  clear z
  have JA0 := JA.2.1
  have JA1 := JA.2.2
  have JAl := JA.1
  have JB0 := JB.2.1
  have JB1 := JB.2.2
  have JBl := JB.1
  have JC0 := JC.2.1
  have JC1 := JC.2.2
  have JCl := JC.1
  have lB := B.size
  go_wp2_with fail
  refine (Mb.out _).mono ?_
  rintro e w3 ⟨rfl, z⟩
  clear JA0 JA1 JAl JB0 JB1 JBl JC0 JC1 JCl lB
  replace JA := JA.below z
  replace JB := JB.below z
  replace JC := JC.below z
  replace B := below_next B z
  clear z
  have JA0 := JA.2.1
  have JA1 := JA.2.2
  have JAl := JA.1
  have JB0 := JB.2.1
  have JB1 := JB.2.2
  have JBl := JB.1
  have JC0 := JC.2.1
  have JC1 := JC.2.2
  have JCl := JC.1
  have lB := B.size
  go_wp2_with fail
  refine (Mc.out _).mono ?_
  rintro e w4 ⟨rfl, z⟩
  clear JA0 JA1 JAl JB0 JB1 JBl JC0 JC1 JCl lB
  replace JA := JA.below z
  replace JB := JB.below z
  replace JC := JC.below z
  replace B := below_next B z
  clear z
  have JA0 := JA.2.1
  have JA1 := JA.2.2
  have JAl := JA.1
  have JB0 := JB.2.1
  have JB1 := JB.2.2
  have JBl := JB.1
  have JC0 := JC.2.1
  have JC1 := JC.2.2
  have JCl := JC.1
  have lB := B.size
  go_wp2_with fail
  refine (XJ.out _).mono ?_
  rintro e w5 ⟨rfl, z⟩
  clear JA0 JA1 JAl JB0 JB1 JBl JC0 JC1 JCl lB
  replace JA := JA.below z
  replace JB := JB.below z
  replace JC := JC.below z
  replace B := below_next B z
  clear z
  have JA0 := JA.2.1
  have JA1 := JA.2.2
  have JAl := JA.1
  have JB0 := JB.2.1
  have JB1 := JB.2.2
  have JBl := JB.1
  have JC0 := JC.2.1
  have JC1 := JC.2.2
  have JCl := JC.1
  have lB := B.size
  go_wp2_with fail
  clear JA0 JA1 JAl JB0 JB1 JBl JC0 JC1 JCl lB
  have JJ : TC (w5.alloc (.cells #[.int .u64 (ub J.1), .int .u64 (ub J.2)] 24)) w5.heap.size J := TC.new rfl
  replace JA := JA.alloc (.cells #[.int .u64 (ub J.1), .int .u64 (ub J.2)] 24)
  replace JB := JB.alloc (.cells #[.int .u64 (ub J.1), .int .u64 (ub J.2)] 24)
  replace JC := JC.alloc (.cells #[.int .u64 (ub J.1), .int .u64 (ub J.2)] 24)
  replace B := Below.alloc B B.size (.cells #[.int .u64 (ub J.1), .int .u64 (ub J.2)] 24)
  generalize w5.alloc (.cells #[.int .u64 (ub J.1), .int .u64 (ub J.2)] 24) = w6 at *
  generalize w5.heap.size = g1 at *
  have JA0 := JA.2.1
  have JA1 := JA.2.2
  have JAl := JA.1
  have JB0 := JB.2.1
  have JB1 := JB.2.2
  have JBl := JB.1
  have JC0 := JC.2.1
  have JC1 := JC.2.2
  have JCl := JC.1
  have JJ0 := JJ.2.1
  have JJ1 := JJ.2.2
  have JJl := JJ.1
  have lB := B.size
  go_wp2_with fail
  refine wp_region_held_drew (S := (fun w' : World => Below w6.heap.size w6 w')) (by kernel_rfl) ?_ (fun hHeld => ?_)
  · (try dsimp only); first | (with_reducible exact below_dr _) | (with_reducible exact Below.refl _ _) | exact below_dr _
  have hBk := below_dr w6
  refine take_d (i := 0) (v := ?vordp21r1) rfl (by rfl) (by kernel_rfl) (by kernel_rfl) (by kernel_rfl) (fun _ _ _ h => h) (Or.inl ⟨by rfl, ?hordp21r1⟩) (by assumption) ?rordp21r1
  case hordp21r1 => (intro wS hSw; (try dsimp only at hSw); go_simp; try (with_reducible rfl))
  (try simp only [Act.put, List.setIfInBounds_toArray, List.set_cons_zero, List.set_cons_succ])
  refine take_d (i := 1) (v := ?vordp21r2) rfl (by rfl) (by kernel_rfl) (by kernel_rfl) (by kernel_rfl) (fun _ _ _ h => h) (Or.inl ⟨by rfl, ?hordp21r2⟩) (by assumption) ?rordp21r2
  case hordp21r2 => (intro wS hSw; (try dsimp only at hSw); go_simp; try (with_reducible rfl))
  (try simp only [Act.put, List.setIfInBounds_toArray, List.set_cons_zero, List.set_cons_succ])
  refine take_d (i := 2) (v := ?vordp21r3) rfl (by rfl) (by kernel_rfl) (by kernel_rfl) (by kernel_rfl) (fun _ _ _ h => h) (Or.inl ⟨by rfl, ?hordp21r3⟩) (by assumption) ?rordp21r3
  case hordp21r3 => (intro wS hSw; (try dsimp only at hSw); go_simp; try (with_reducible rfl))
  (try simp only [Act.put, List.setIfInBounds_toArray, List.set_cons_zero, List.set_cons_succ])
  refine take_d (i := 3) (v := ?vordp21r4) rfl (by rfl) (by kernel_rfl) (by kernel_rfl) (by kernel_rfl) (fun _ _ _ h => h) (Or.inl ⟨by rfl, ?hordp21r4⟩) (by assumption) ?rordp21r4
  case hordp21r4 => (intro wS hSw; (try dsimp only at hSw); have hcq0 := cn hSw JA0; have hcq1 := cn hSw JA1; go_simp; try (with_reducible rfl))
  (try simp only [Act.put, List.setIfInBounds_toArray, List.set_cons_zero, List.set_cons_succ])
  refine take_d (i := 4) (v := ?vordp21r5) rfl (by rfl) (by kernel_rfl) (by kernel_rfl) (by kernel_rfl) (fun _ _ _ h => h) (Or.inl ⟨by rfl, ?hordp21r5⟩) (by assumption) ?rordp21r5
  case hordp21r5 => (intro wS hSw; (try dsimp only at hSw); have hcq0 := cn hSw JA0; have hcq1 := cn hSw JA1; go_simp; try (with_reducible rfl))
  (try simp only [Act.put, List.setIfInBounds_toArray, List.set_cons_zero, List.set_cons_succ])
  refine wpAnyH_ready (rs := [5]) (by kernel_rfl) (by simp) ?_
  refine AllReadyH.cons rfl (fun K hK => ?_) AllReadyH.nil
  go_simp
  go_at_call 48
  refine (Iaa.out _).mono ?_
  rintro e wordp21r6 ⟨rfl, bkordp21r6⟩
  have hBn := below_next hBk bkordp21r6
  clear hBk bkordp21r6
  have hBk := hBn
  clear hBn
  try go_simp
  refine hK.out _ _ ?_ (fun hHeld => ?_)
  · (try dsimp only); exact hBk
  clear hK K
  (try simp only [Act.put, List.setIfInBounds_toArray, List.set_cons_zero, List.set_cons_succ])
  refine take_d (i := 6) (v := ?vordp21r7) rfl (by rfl) (by kernel_rfl) (by kernel_rfl) (by kernel_rfl) (fun _ _ _ h => h) (Or.inl ⟨by rfl, ?hordp21r7⟩) (by assumption) ?rordp21r7
  case hordp21r7 => (intro wS hSw; (try dsimp only at hSw); go_simp; try (with_reducible rfl))
  (try simp only [Act.put, List.setIfInBounds_toArray, List.set_cons_zero, List.set_cons_succ])
  refine take_d (i := 7) (v := ?vordp21r8) rfl (by rfl) (by kernel_rfl) (by kernel_rfl) (by kernel_rfl) (fun _ _ _ h => h) (Or.inl ⟨by rfl, ?hordp21r8⟩) (by assumption) ?rordp21r8
  case hordp21r8 => (intro wS hSw; (try dsimp only at hSw); go_simp; try (with_reducible rfl))
  (try simp only [Act.put, List.setIfInBounds_toArray, List.set_cons_zero, List.set_cons_succ])
  refine take_d (i := 8) (v := ?vordp21r9) rfl (by rfl) (by kernel_rfl) (by kernel_rfl) (by kernel_rfl) (fun _ _ _ h => h) (Or.inl ⟨by rfl, ?hordp21r9⟩) (by assumption) ?rordp21r9
  case hordp21r9 => (intro wS hSw; (try dsimp only at hSw); go_simp; try (with_reducible rfl))
  (try simp only [Act.put, List.setIfInBounds_toArray, List.set_cons_zero, List.set_cons_succ])
  refine take_d (i := 9) (v := ?vordp21r10) rfl (by rfl) (by kernel_rfl) (by kernel_rfl) (by kernel_rfl) (fun _ _ _ h => h) (Or.inl ⟨by rfl, ?hordp21r10⟩) (by assumption) ?rordp21r10
  case hordp21r10 => (intro wS hSw; (try dsimp only at hSw); have hcq0 := cn hSw JA0; have hcq1 := cn hSw JA1; go_simp; try (with_reducible rfl))
  (try simp only [Act.put, List.setIfInBounds_toArray, List.set_cons_zero, List.set_cons_succ])
  refine wpAnyH_ready (rs := [10]) (by kernel_rfl) (by simp) ?_
  refine AllReadyH.cons rfl (fun K hK => ?_) AllReadyH.nil
  go_simp
  go_at_call 50
  refine (AL.out _).mono ?_
  rintro e wordp21r11 ⟨rfl, bkordp21r11⟩
  have hBn := below_next hBk bkordp21r11
  clear hBk bkordp21r11
  have hBk := hBn
  clear hBn
  try go_simp
  refine hK.out _ _ ?_ (fun hHeld => ?_)
  · (try dsimp only); exact hBk
  clear hK K
  (try simp only [Act.put, List.setIfInBounds_toArray, List.set_cons_zero, List.set_cons_succ])
  refine wpAnyH_ready (rs := [11]) (by kernel_rfl) (by simp) ?_
  refine AllReadyH.cons rfl (fun K hK => ?_) AllReadyH.nil
  go_simp
  go_at_call 48
  refine (Ial.out _).mono ?_
  rintro e wordp21r12 ⟨rfl, bkordp21r12⟩
  have hBn := below_next hBk bkordp21r12
  clear hBk bkordp21r12
  have hBk := hBn
  clear hBn
  try go_simp
  refine hK.out _ _ ?_ (fun hHeld => ?_)
  · (try dsimp only); exact hBk
  clear hK K
  (try simp only [Act.put, List.setIfInBounds_toArray, List.set_cons_zero, List.set_cons_succ])
  refine take_d (i := 12) (v := ?vordp21r13) rfl (by rfl) (by kernel_rfl) (by kernel_rfl) (by kernel_rfl) (fun _ _ _ h => h) (Or.inl ⟨by rfl, ?hordp21r13⟩) (by assumption) ?rordp21r13
  case hordp21r13 => (intro wS hSw; (try dsimp only at hSw); go_simp; try (with_reducible rfl))
  (try simp only [Act.put, List.setIfInBounds_toArray, List.set_cons_zero, List.set_cons_succ])
  refine take_d (i := 13) (v := ?vordp21r14) rfl (by rfl) (by kernel_rfl) (by kernel_rfl) (by kernel_rfl) (fun _ _ _ h => h) (Or.inl ⟨by rfl, ?hordp21r14⟩) (by assumption) ?rordp21r14
  case hordp21r14 => (intro wS hSw; (try dsimp only at hSw); go_simp; try (with_reducible rfl))
  (try simp only [Act.put, List.setIfInBounds_toArray, List.set_cons_zero, List.set_cons_succ])
  refine take_d (i := 14) (v := ?vordp21r15) rfl (by rfl) (by kernel_rfl) (by kernel_rfl) (by kernel_rfl) (fun _ _ _ h => h) (Or.inl ⟨by rfl, ?hordp21r15⟩) (by assumption) ?rordp21r15
  case hordp21r15 => (intro wS hSw; (try dsimp only at hSw); go_simp; try (with_reducible rfl))
  (try simp only [Act.put, List.setIfInBounds_toArray, List.set_cons_zero, List.set_cons_succ])
  refine take_d (i := 15) (v := ?vordp21r16) rfl (by rfl) (by kernel_rfl) (by kernel_rfl) (by kernel_rfl) (fun _ _ _ h => h) (Or.inl ⟨by rfl, ?hordp21r16⟩) (by assumption) ?rordp21r16
  case hordp21r16 => (intro wS hSw; (try dsimp only at hSw); have hcq0 := cn hSw JA0; have hcq1 := cn hSw JA1; go_simp; try (with_reducible rfl))
  (try simp only [Act.put, List.setIfInBounds_toArray, List.set_cons_zero, List.set_cons_succ])
  refine take_d (i := 16) (v := ?vordp21r17) rfl (by rfl) (by kernel_rfl) (by kernel_rfl) (by kernel_rfl) (fun _ _ _ h => h) (Or.inl ⟨by rfl, ?hordp21r17⟩) (by assumption) ?rordp21r17
  case hordp21r17 => (intro wS hSw; (try dsimp only at hSw); have hcq0 := cn hSw JB0; have hcq1 := cn hSw JB1; go_simp; try (with_reducible rfl))
  (try simp only [Act.put, List.setIfInBounds_toArray, List.set_cons_zero, List.set_cons_succ])
  refine wpAnyH_ready (rs := [17]) (by kernel_rfl) (by simp) ?_
  refine AllReadyH.cons rfl (fun K hK => ?_) AllReadyH.nil
  go_simp
  go_at_call 48
  refine (Iab.out _).mono ?_
  rintro e wordp21r18 ⟨rfl, bkordp21r18⟩
  have hBn := below_next hBk bkordp21r18
  clear hBk bkordp21r18
  have hBk := hBn
  clear hBn
  try go_simp
  refine hK.out _ _ ?_ (fun hHeld => ?_)
  · (try dsimp only); exact hBk
  clear hK K
  (try simp only [Act.put, List.setIfInBounds_toArray, List.set_cons_zero, List.set_cons_succ])
  refine take_d (i := 18) (v := ?vordp21r19) rfl (by rfl) (by kernel_rfl) (by kernel_rfl) (by kernel_rfl) (fun _ _ _ h => h) (Or.inl ⟨by rfl, ?hordp21r19⟩) (by assumption) ?rordp21r19
  case hordp21r19 => (intro wS hSw; (try dsimp only at hSw); go_simp; try (with_reducible rfl))
  (try simp only [Act.put, List.setIfInBounds_toArray, List.set_cons_zero, List.set_cons_succ])
  refine take_d (i := 19) (v := ?vordp21r20) rfl (by rfl) (by kernel_rfl) (by kernel_rfl) (by kernel_rfl) (fun _ _ _ h => h) (Or.inl ⟨by rfl, ?hordp21r20⟩) (by assumption) ?rordp21r20
  case hordp21r20 => (intro wS hSw; (try dsimp only at hSw); have hcq0 := cn hSw JB0; have hcq1 := cn hSw JB1; go_simp; try (with_reducible rfl))
  (try simp only [Act.put, List.setIfInBounds_toArray, List.set_cons_zero, List.set_cons_succ])
  refine take_d (i := 20) (v := ?vordp21r21) rfl (by rfl) (by kernel_rfl) (by kernel_rfl) (by kernel_rfl) (fun _ _ _ h => h) (Or.inl ⟨by rfl, ?hordp21r21⟩) (by assumption) ?rordp21r21
  case hordp21r21 => (intro wS hSw; (try dsimp only at hSw); have hcq0 := cn hSw JA0; have hcq1 := cn hSw JA1; go_simp; try (with_reducible rfl))
  (try simp only [Act.put, List.setIfInBounds_toArray, List.set_cons_zero, List.set_cons_succ])
  refine wpAnyH_ready (rs := [21]) (by kernel_rfl) (by simp) ?_
  refine AllReadyH.cons rfl (fun K hK => ?_) AllReadyH.nil
  go_simp
  go_at_call 48
  refine (Iba.out _).mono ?_
  rintro e wordp21r22 ⟨rfl, bkordp21r22⟩
  have hBn := below_next hBk bkordp21r22
  clear hBk bkordp21r22
  have hBk := hBn
  clear hBn
  try go_simp
  refine hK.out _ _ ?_ (fun hHeld => ?_)
  · (try dsimp only); exact hBk
  clear hK K
  (try simp only [Act.put, List.setIfInBounds_toArray, List.set_cons_zero, List.set_cons_succ])
  refine take_d (i := 22) (v := ?vordp21r23) rfl (by rfl) (by kernel_rfl) (by kernel_rfl) (by kernel_rfl) (fun _ _ _ h => h) (Or.inl ⟨by rfl, ?hordp21r23⟩) (by assumption) ?rordp21r23
  case hordp21r23 => (intro wS hSw; (try dsimp only at hSw); go_simp; try (with_reducible rfl))
  (try simp only [Act.put, List.setIfInBounds_toArray, List.set_cons_zero, List.set_cons_succ])
  refine take_d (i := 23) (v := ?vordp21r24) rfl (by rfl) (by kernel_rfl) (by kernel_rfl) (by kernel_rfl) (fun _ _ _ h => h) (Or.inl ⟨by rfl, ?hordp21r24⟩) (by assumption) ?rordp21r24
  case hordp21r24 => (intro wS hSw; (try dsimp only at hSw); go_simp; try (with_reducible rfl))
  (try simp only [Act.put, List.setIfInBounds_toArray, List.set_cons_zero, List.set_cons_succ])
  refine take_d (i := 24) (v := ?vordp21r25) rfl (by rfl) (by kernel_rfl) (by kernel_rfl) (by kernel_rfl) (fun _ _ _ h => h) (Or.inl ⟨by rfl, ?hordp21r25⟩) (by assumption) ?rordp21r25
  case hordp21r25 => (intro wS hSw; (try dsimp only at hSw); have hcq0 := cn hSw JA0; have hcq1 := cn hSw JA1; go_simp; try (with_reducible rfl))
  (try simp only [Act.put, List.setIfInBounds_toArray, List.set_cons_zero, List.set_cons_succ])
  refine take_d (i := 25) (v := ?vordp21r26) rfl (by rfl) (by kernel_rfl) (by kernel_rfl) (by kernel_rfl) (fun _ _ _ h => h) (Or.inl ⟨by rfl, ?hordp21r26⟩) (by assumption) ?rordp21r26
  case hordp21r26 => (intro wS hSw; (try dsimp only at hSw); have hcq0 := cn hSw JB0; have hcq1 := cn hSw JB1; go_simp; try (with_reducible rfl))
  (try simp only [Act.put, List.setIfInBounds_toArray, List.set_cons_zero, List.set_cons_succ])
  refine take_d (i := 26) (v := ?vordp21r27) rfl (by rfl) (by kernel_rfl) (by kernel_rfl) (by kernel_rfl) (fun _ _ _ h => h) (Or.inl ⟨by rfl, ?hordp21r27⟩) (by assumption) ?rordp21r27
  case hordp21r27 => (intro wS hSw; (try dsimp only at hSw); go_simp; try (with_reducible rfl))
  (try simp only [Act.put, List.setIfInBounds_toArray, List.set_cons_zero, List.set_cons_succ])
  refine take_d (i := 27) (v := ?vordp21r28) rfl (by rfl) (by kernel_rfl) (by kernel_rfl) (by kernel_rfl) (fun _ _ _ h => h) (Or.inl ⟨by rfl, ?hordp21r28⟩) (by assumption) ?rordp21r28
  case hordp21r28 => (intro wS hSw; (try dsimp only at hSw); go_simp; try (with_reducible rfl))
  (try simp only [Act.put, List.setIfInBounds_toArray, List.set_cons_zero, List.set_cons_succ])
  refine take_d (i := 28) (v := ?vordp21r29) rfl (by rfl) (by kernel_rfl) (by kernel_rfl) (by kernel_rfl) (fun _ _ _ h => h) (Or.inl ⟨by rfl, ?hordp21r29⟩) (by assumption) ?rordp21r29
  case hordp21r29 => (intro wS hSw; (try dsimp only at hSw); go_simp; try (with_reducible rfl))
  (try simp only [Act.put, List.setIfInBounds_toArray, List.set_cons_zero, List.set_cons_succ])
  refine take_d (i := 29) (v := ?vordp21r30) rfl (by rfl) (by kernel_rfl) (by kernel_rfl) (by kernel_rfl) (fun _ _ _ h => h) (Or.inl ⟨by rfl, ?hordp21r30⟩) (by assumption) ?rordp21r30
  case hordp21r30 => (intro wS hSw; (try dsimp only at hSw); go_simp; try (with_reducible rfl))
  (try simp only [Act.put, List.setIfInBounds_toArray, List.set_cons_zero, List.set_cons_succ])
  refine take_d (i := 30) (v := ?vordp21r31) rfl (by rfl) (by kernel_rfl) (by kernel_rfl) (by kernel_rfl) (fun _ _ _ h => h) (Or.inl ⟨by rfl, ?hordp21r31⟩) (by assumption) ?rordp21r31
  case hordp21r31 => (intro wS hSw; (try dsimp only at hSw); have hcq0 := cn hSw JA0; have hcq1 := cn hSw JA1; go_simp; try (with_reducible rfl))
  (try simp only [Act.put, List.setIfInBounds_toArray, List.set_cons_zero, List.set_cons_succ])
  refine take_d (i := 31) (v := ?vordp21r32) rfl (by rfl) (by kernel_rfl) (by kernel_rfl) (by kernel_rfl) (fun _ _ _ h => h) (Or.inl ⟨by rfl, ?hordp21r32⟩) (by assumption) ?rordp21r32
  case hordp21r32 => (intro wS hSw; (try dsimp only at hSw); have hcq0 := cn hSw JB0; have hcq1 := cn hSw JB1; go_simp; try (with_reducible rfl))
  (try simp only [Act.put, List.setIfInBounds_toArray, List.set_cons_zero, List.set_cons_succ])
  refine wpAnyH_ready (rs := [32]) (by kernel_rfl) (by simp) ?_
  refine AllReadyH.cons rfl (fun K hK => ?_) AllReadyH.nil
  go_simp
  go_at_call 48
  refine (Iab.out _).mono ?_
  rintro e wordp21r33 ⟨rfl, bkordp21r33⟩
  have hBn := below_next hBk bkordp21r33
  clear hBk bkordp21r33
  have hBk := hBn
  clear hBn
  try go_simp
  refine hK.out _ _ ?_ (fun hHeld => ?_)
  · (try dsimp only); exact hBk
  clear hK K
  (try simp only [Act.put, List.setIfInBounds_toArray, List.set_cons_zero, List.set_cons_succ])
  refine take_d (i := 33) (v := ?vordp21r34) rfl (by rfl) (by kernel_rfl) (by kernel_rfl) (by kernel_rfl) (fun _ _ _ h => h) (Or.inl ⟨by rfl, ?hordp21r34⟩) (by assumption) ?rordp21r34
  case hordp21r34 => (intro wS hSw; (try dsimp only at hSw); go_simp; try (with_reducible rfl))
  (try simp only [Act.put, List.setIfInBounds_toArray, List.set_cons_zero, List.set_cons_succ])
  refine take_d (i := 34) (v := ?vordp21r35) rfl (by rfl) (by kernel_rfl) (by kernel_rfl) (by kernel_rfl) (fun _ _ _ h => h) (Or.inl ⟨by rfl, ?hordp21r35⟩) (by assumption) ?rordp21r35
  case hordp21r35 => (intro wS hSw; (try dsimp only at hSw); have hcq0 := cn hSw JB0; have hcq1 := cn hSw JB1; go_simp; try (with_reducible rfl))
  (try simp only [Act.put, List.setIfInBounds_toArray, List.set_cons_zero, List.set_cons_succ])
  refine take_d (i := 35) (v := ?vordp21r36) rfl (by rfl) (by kernel_rfl) (by kernel_rfl) (by kernel_rfl) (fun _ _ _ h => h) (Or.inl ⟨by rfl, ?hordp21r36⟩) (by assumption) ?rordp21r36
  case hordp21r36 => (intro wS hSw; (try dsimp only at hSw); have hcq0 := cn hSw JC0; have hcq1 := cn hSw JC1; go_simp; try (with_reducible rfl))
  (try simp only [Act.put, List.setIfInBounds_toArray, List.set_cons_zero, List.set_cons_succ])
  refine wpAnyH_ready (rs := [36]) (by kernel_rfl) (by simp) ?_
  refine AllReadyH.cons rfl (fun K hK => ?_) AllReadyH.nil
  go_simp
  go_at_call 48
  refine (Ibc.out _).mono ?_
  rintro e wordp21r37 ⟨rfl, bkordp21r37⟩
  have hBn := below_next hBk bkordp21r37
  clear hBk bkordp21r37
  have hBk := hBn
  clear hBn
  try go_simp
  refine hK.out _ _ ?_ (fun hHeld => ?_)
  · (try dsimp only); exact hBk
  clear hK K
  (try simp only [Act.put, List.setIfInBounds_toArray, List.set_cons_zero, List.set_cons_succ])
  refine take_d (i := 37) (v := ?vordp21r38) rfl (by rfl) (by kernel_rfl) (by kernel_rfl) (by kernel_rfl) (fun _ _ _ h => h) (Or.inl ⟨by rfl, ?hordp21r38⟩) (by assumption) ?rordp21r38
  case hordp21r38 => (intro wS hSw; (try dsimp only at hSw); go_simp; try (with_reducible rfl))
  (try simp only [Act.put, List.setIfInBounds_toArray, List.set_cons_zero, List.set_cons_succ])
  refine take_d (i := 38) (v := ?vordp21r39) rfl (by rfl) (by kernel_rfl) (by kernel_rfl) (by kernel_rfl) (fun _ _ _ h => h) (Or.inl ⟨by rfl, ?hordp21r39⟩) (by assumption) ?rordp21r39
  case hordp21r39 => (intro wS hSw; (try dsimp only at hSw); go_simp; try (with_reducible rfl))
  (try simp only [Act.put, List.setIfInBounds_toArray, List.set_cons_zero, List.set_cons_succ])
  refine take_d (i := 39) (v := ?vordp21r40) rfl (by rfl) (by kernel_rfl) (by kernel_rfl) (by kernel_rfl) (fun _ _ _ h => h) (Or.inl ⟨by rfl, ?hordp21r40⟩) (by assumption) ?rordp21r40
  case hordp21r40 => (intro wS hSw; (try dsimp only at hSw); have hcq0 := cn hSw JA0; have hcq1 := cn hSw JA1; go_simp; try (with_reducible rfl))
  (try simp only [Act.put, List.setIfInBounds_toArray, List.set_cons_zero, List.set_cons_succ])
  refine take_d (i := 40) (v := ?vordp21r41) rfl (by rfl) (by kernel_rfl) (by kernel_rfl) (by kernel_rfl) (fun _ _ _ h => h) (Or.inl ⟨by rfl, ?hordp21r41⟩) (by assumption) ?rordp21r41
  case hordp21r41 => (intro wS hSw; (try dsimp only at hSw); have hcq0 := cn hSw JC0; have hcq1 := cn hSw JC1; go_simp; try (with_reducible rfl))
  (try simp only [Act.put, List.setIfInBounds_toArray, List.set_cons_zero, List.set_cons_succ])
  refine wpAnyH_ready (rs := [41]) (by kernel_rfl) (by simp) ?_
  refine AllReadyH.cons rfl (fun K hK => ?_) AllReadyH.nil
  go_simp
  go_at_call 48
  refine (Iac.out _).mono ?_
  rintro e wordp21r42 ⟨rfl, bkordp21r42⟩
  have hBn := below_next hBk bkordp21r42
  clear hBk bkordp21r42
  have hBk := hBn
  clear hBn
  try go_simp
  refine hK.out _ _ ?_ (fun hHeld => ?_)
  · (try dsimp only); exact hBk
  clear hK K
  (try simp only [Act.put, List.setIfInBounds_toArray, List.set_cons_zero, List.set_cons_succ])
  refine take_d (i := 42) (v := ?vordp21r43) rfl (by rfl) (by kernel_rfl) (by kernel_rfl) (by kernel_rfl) (fun _ _ _ h => h) (Or.inl ⟨by rfl, ?hordp21r43⟩) (by assumption) ?rordp21r43
  case hordp21r43 => (intro wS hSw; (try dsimp only at hSw); go_simp; try (with_reducible rfl))
  (try simp only [Act.put, List.setIfInBounds_toArray, List.set_cons_zero, List.set_cons_succ])
  refine take_d (i := 43) (v := ?vordp21r44) rfl (by rfl) (by kernel_rfl) (by kernel_rfl) (by kernel_rfl) (fun _ _ _ h => h) (Or.inl ⟨by rfl, ?hordp21r44⟩) (by assumption) ?rordp21r44
  case hordp21r44 => (intro wS hSw; (try dsimp only at hSw); go_simp; try (with_reducible rfl))
  (try simp only [Act.put, List.setIfInBounds_toArray, List.set_cons_zero, List.set_cons_succ])
  refine take_d (i := 44) (v := ?vordp21r45) rfl (by rfl) (by kernel_rfl) (by kernel_rfl) (by kernel_rfl) (fun _ _ _ h => h) (Or.inl ⟨by rfl, ?hordp21r45⟩) (by assumption) ?rordp21r45
  case hordp21r45 => (intro wS hSw; (try dsimp only at hSw); go_simp; try (with_reducible rfl))
  (try simp only [Act.put, List.setIfInBounds_toArray, List.set_cons_zero, List.set_cons_succ])
  refine wpAnyH_done (by kernel_rfl) ?_ _
  clear JA0 JA1 JAl JB0 JB1 JBl JC0 JC1 JCl JJ0 JJ1 JJl lB
  generalize wordp21r42 = w7 at hBk ⊢
  replace JA := JA.below hBk
  replace JB := JB.below hBk
  replace JC := JC.below hBk
  replace JJ := JJ.below hBk
  replace B := below_next B hBk
  clear hBk
  have JA0 := JA.2.1
  have JA1 := JA.2.2
  have JAl := JA.1
  have JB0 := JB.2.1
  have JB1 := JB.2.2
  have JBl := JB.1
  have JC0 := JC.2.1
  have JC1 := JC.2.2
  have JCl := JC.1
  have JJ0 := JJ.2.1
  have JJ1 := JJ.2.2
  have JJl := JJ.1
  have lB := B.size
  go_wp2_with fail
  refine (Iaj.out _).mono ?_
  rintro e w8 ⟨rfl, z⟩
  clear JA0 JA1 JAl JB0 JB1 JBl JC0 JC1 JCl JJ0 JJ1 JJl lB
  replace JA := JA.below z
  replace JB := JB.below z
  replace JC := JC.below z
  replace JJ := JJ.below z
  replace B := below_next B z
  clear z
  have JA0 := JA.2.1
  have JA1 := JA.2.2
  have JAl := JA.1
  have JB0 := JB.2.1
  have JB1 := JB.2.2
  have JBl := JB.1
  have JC0 := JC.2.1
  have JC1 := JC.2.2
  have JCl := JC.1
  have JJ0 := JJ.2.1
  have JJ1 := JJ.2.2
  have JJl := JJ.1
  have lB := B.size
  go_wp2_with fail
  refine (Ibj.out _).mono ?_
  rintro e w9 ⟨rfl, z⟩
  clear JA0 JA1 JAl JB0 JB1 JBl JC0 JC1 JCl JJ0 JJ1 JJl lB
  replace JA := JA.below z
  replace JB := JB.below z
  replace JC := JC.below z
  replace JJ := JJ.below z
  replace B := below_next B z
  clear z
  have JA0 := JA.2.1
  have JA1 := JA.2.2
  have JAl := JA.1
  have JB0 := JB.2.1
  have JB1 := JB.2.2
  have JBl := JB.1
  have JC0 := JC.2.1
  have JC1 := JC.2.2
  have JCl := JC.1
  have JJ0 := JJ.2.1
  have JJ1 := JJ.2.2
  have JJl := JJ.1
  have lB := B.size
  go_wp2_with fail
  refine (Iac.out _).mono ?_
  rintro e w10 ⟨rfl, z⟩
  clear JA0 JA1 JAl JB0 JB1 JBl JC0 JC1 JCl JJ0 JJ1 JJl lB
  replace JA := JA.below z
  replace JB := JB.below z
  replace JC := JC.below z
  replace JJ := JJ.below z
  replace B := below_next B z
  clear z
  have JA0 := JA.2.1
  have JA1 := JA.2.2
  have JAl := JA.1
  have JB0 := JB.2.1
  have JB1 := JB.2.2
  have JBl := JB.1
  have JC0 := JC.2.1
  have JC1 := JC.2.2
  have JCl := JC.1
  have JJ0 := JJ.2.1
  have JJ1 := JJ.2.2
  have JJl := JJ.1
  have lB := B.size
  go_wp2_with fail
  refine (Ibc.out _).mono ?_
  rintro e w11 ⟨rfl, z⟩
  clear JA0 JA1 JAl JB0 JB1 JBl JC0 JC1 JCl JJ0 JJ1 JJl lB
  replace JA := JA.below z
  replace JB := JB.below z
  replace JC := JC.below z
  replace JJ := JJ.below z
  replace B := below_next B z
  clear z
  obtain rfl : jcB = true := jc.out (by trivial) (by trivial)
  have JA0 := JA.2.1
  have JA1 := JA.2.2
  have JAl := JA.1
  have JB0 := JB.2.1
  have JB1 := JB.2.2
  have JBl := JB.1
  have JC0 := JC.2.1
  have JC1 := JC.2.2
  have JCl := JC.1
  have JJ0 := JJ.2.1
  have JJ1 := JJ.2.2
  have JJl := JJ.1
  have lB := B.size
  go_wp2_with fail
  refine (Ijc.out _).mono ?_
  rintro e w12 ⟨rfl, z⟩
  clear JA0 JA1 JAl JB0 JB1 JBl JC0 JC1 JCl JJ0 JJ1 JJl lB
  replace JA := JA.below z
  replace JB := JB.below z
  replace JC := JC.below z
  replace JJ := JJ.below z
  replace B := below_next B z
  clear z
  have JA0 := JA.2.1
  have JA1 := JA.2.2
  have JAl := JA.1
  have JB0 := JB.2.1
  have JB1 := JB.2.2
  have JBl := JB.1
  have JC0 := JC.2.1
  have JC1 := JC.2.2
  have JCl := JC.1
  have JJ0 := JJ.2.1
  have JJ1 := JJ.2.2
  have JJl := JJ.1
  have lB := B.size
  go_wp2_with fail
  refine (XM.out _).mono ?_
  rintro e w13 ⟨rfl, z⟩
  clear JA0 JA1 JAl JB0 JB1 JBl JC0 JC1 JCl JJ0 JJ1 JJl lB
  replace JA := JA.below z
  replace JB := JB.below z
  replace JC := JC.below z
  replace JJ := JJ.below z
  replace B := below_next B z
  clear z
  rcases (show mk = true ∨ mk = false by cases mk <;> simp) with rfl | rfl
  · skip
    obtain rfl : ma = true := mA.out (by trivial)
    obtain rfl : mb = true := mB.out (by trivial)
    clear mA mB
    have JA0 := JA.2.1
    have JA1 := JA.2.2
    have JAl := JA.1
    have JB0 := JB.2.1
    have JB1 := JB.2.2
    have JBl := JB.1
    have JC0 := JC.2.1
    have JC1 := JC.2.2
    have JCl := JC.1
    have JJ0 := JJ.2.1
    have JJ1 := JJ.2.2
    have JJl := JJ.1
    have lB := B.size
    go_wp2_with fail
    clear JA0 JA1 JAl JB0 JB1 JBl JC0 JC1 JCl JJ0 JJ1 JJl lB
    have JM : TC (w13.alloc (.cells #[.int .u64 (ub M0.1), .int .u64 (ub M0.2)] 24)) w13.heap.size M0 := TC.new rfl
    replace JA := JA.alloc (.cells #[.int .u64 (ub M0.1), .int .u64 (ub M0.2)] 24)
    replace JB := JB.alloc (.cells #[.int .u64 (ub M0.1), .int .u64 (ub M0.2)] 24)
    replace JC := JC.alloc (.cells #[.int .u64 (ub M0.1), .int .u64 (ub M0.2)] 24)
    replace JJ := JJ.alloc (.cells #[.int .u64 (ub M0.1), .int .u64 (ub M0.2)] 24)
    replace B := Below.alloc B B.size (.cells #[.int .u64 (ub M0.1), .int .u64 (ub M0.2)] 24)
    generalize w13.alloc (.cells #[.int .u64 (ub M0.1), .int .u64 (ub M0.2)] 24) = w14 at *
    generalize w13.heap.size = g2 at *
    have JA0 := JA.2.1
    have JA1 := JA.2.2
    have JAl := JA.1
    have JB0 := JB.2.1
    have JB1 := JB.2.2
    have JBl := JB.1
    have JC0 := JC.2.1
    have JC1 := JC.2.2
    have JCl := JC.1
    have JJ0 := JJ.2.1
    have JJ1 := JJ.2.2
    have JJl := JJ.1
    have JM0 := JM.2.1
    have JM1 := JM.2.2
    have JMl := JM.1
    have lB := B.size
    go_wp2_with fail
    refine (Ima.out _).mono ?_
    rintro e w15 ⟨rfl, z⟩
    clear JA0 JA1 JAl JB0 JB1 JBl JC0 JC1 JCl JJ0 JJ1 JJl JM0 JM1 JMl lB
    replace JA := JA.below z
    replace JB := JB.below z
    replace JC := JC.below z
    replace JJ := JJ.below z
    replace JM := JM.below z
    replace B := below_next B z
    clear z
    have JA0 := JA.2.1
    have JA1 := JA.2.2
    have JAl := JA.1
    have JB0 := JB.2.1
    have JB1 := JB.2.2
    have JBl := JB.1
    have JC0 := JC.2.1
    have JC1 := JC.2.2
    have JCl := JC.1
    have JJ0 := JJ.2.1
    have JJ1 := JJ.2.2
    have JJl := JJ.1
    have JM0 := JM.2.1
    have JM1 := JM.2.2
    have JMl := JM.1
    have lB := B.size
    go_wp2_with fail
    refine (Imb.out _).mono ?_
    rintro e w16 ⟨rfl, z⟩
    clear JA0 JA1 JAl JB0 JB1 JBl JC0 JC1 JCl JJ0 JJ1 JJl JM0 JM1 JMl lB
    replace JA := JA.below z
    replace JB := JB.below z
    replace JC := JC.below z
    replace JJ := JJ.below z
    replace JM := JM.below z
    replace B := below_next B z
    clear z
    have JA0 := JA.2.1
    have JA1 := JA.2.2
    have JAl := JA.1
    have JB0 := JB.2.1
    have JB1 := JB.2.2
    have JBl := JB.1
    have JC0 := JC.2.1
    have JC1 := JC.2.2
    have JCl := JC.1
    have JJ0 := JJ.2.1
    have JJ1 := JJ.2.2
    have JJl := JJ.1
    have JM0 := JM.2.1
    have JM1 := JM.2.2
    have JMl := JM.1
    have lB := B.size
    go_wp2_with fail
    refine (Ica.out _).mono ?_
    rintro e w17 ⟨rfl, z⟩
    clear JA0 JA1 JAl JB0 JB1 JBl JC0 JC1 JCl JJ0 JJ1 JJl JM0 JM1 JMl lB
    replace JA := JA.below z
    replace JB := JB.below z
    replace JC := JC.below z
    replace JJ := JJ.below z
    replace JM := JM.below z
    replace B := below_next B z
    clear z
    cases ca
    · skip
      have hce := hce.out
      have JA0 := JA.2.1
      have JA1 := JA.2.2
      have JAl := JA.1
      have JB0 := JB.2.1
      have JB1 := JB.2.2
      have JBl := JB.1
      have JC0 := JC.2.1
      have JC1 := JC.2.2
      have JCl := JC.1
      have JJ0 := JJ.2.1
      have JJ1 := JJ.2.2
      have JJl := JJ.1
      have JM0 := JM.2.1
      have JM1 := JM.2.2
      have JMl := JM.1
      have lB := B.size
      go_wp2_with fail
      refine wp_region_held_drew (S := (fun w' : World => Below w17.heap.size w17 w')) (by kernel_rfl) ?_ (fun hHeld => ?_)
      · (try dsimp only); first | (with_reducible exact below_dr _) | (with_reducible exact Below.refl _ _) | exact below_dr _
      have hBk := below_dr w17
      refine take_d (i := 0) (v := ?vq41_1) rfl (by rfl) (by kernel_rfl) (by kernel_rfl) (by kernel_rfl) (fun _ _ _ h => h) (Or.inl ⟨by rfl, ?hq41_1⟩) (by assumption) ?rq41_1
      case hq41_1 => (intro wS hSw; (try dsimp only at hSw); have hcq0 := cn hSw JA0; have hcq1 := cn hSw JA1; go_simp; try (with_reducible rfl))
      (try simp only [Act.put, List.setIfInBounds_toArray, List.set_cons_zero, List.set_cons_succ])
      refine take_d (i := 1) (v := ?vq41_2) rfl (by rfl) (by kernel_rfl) (by kernel_rfl) (by kernel_rfl) (fun _ _ _ h => h) (Or.inl ⟨by rfl, ?hq41_2⟩) (by assumption) ?rq41_2
      case hq41_2 => (intro wS hSw; (try dsimp only at hSw); go_simp; try (with_reducible rfl))
      (try simp only [Act.put, List.setIfInBounds_toArray, List.set_cons_zero, List.set_cons_succ])
      refine take_d (i := 2) (v := ?vq41_3) rfl (by rfl) (by kernel_rfl) (by kernel_rfl) (by kernel_rfl) (fun _ _ _ h => h) (Or.inl ⟨by rfl, ?hq41_3⟩) (by assumption) ?rq41_3
      case hq41_3 => (intro wS hSw; (try dsimp only at hSw); have hcq0 := cn hSw JA0; have hcq1 := cn hSw JA1; go_simp; try (with_reducible rfl))
      (try simp only [Act.put, List.setIfInBounds_toArray, List.set_cons_zero, List.set_cons_succ])
      refine wpAnyH_ready (rs := [3]) (by kernel_rfl) (by simp) ?_
      refine AllReadyH.cons rfl (fun K hK => ?_) AllReadyH.nil
      go_simp
      go_at_call 46
      refine (HL.out _).mono ?_
      rintro e wq41_4 ⟨rfl, bkq41_4⟩
      have hBn := below_next hBk bkq41_4
      clear hBk bkq41_4
      have hBk := hBn
      clear hBn
      try go_simp
      refine hK.out _ _ ?_ (fun hHeld => ?_)
      · (try dsimp only); exact hBk
      clear hK K
      (try simp only [Act.put, List.setIfInBounds_toArray, List.set_cons_zero, List.set_cons_succ])
      refine take_d (i := 4) (v := ?vq41_5) rfl (by rfl) (by kernel_rfl) (by kernel_rfl) (by kernel_rfl) (fun _ _ _ h => h) (Or.inl ⟨by rfl, ?hq41_5⟩) (by assumption) ?rq41_5
      case hq41_5 => (intro wS hSw; (try dsimp only at hSw); go_simp; try (with_reducible rfl))
      (try simp only [Act.put, List.setIfInBounds_toArray, List.set_cons_zero, List.set_cons_succ])
      refine take_d (i := 5) (v := ?vq41_6) rfl (by rfl) (by kernel_rfl) (by kernel_rfl) (by kernel_rfl) (fun _ _ _ h => h) (Or.inl ⟨by rfl, ?hq41_6⟩) (by assumption) ?rq41_6
      case hq41_6 => (intro wS hSw; (try dsimp only at hSw); have hcq0 := cn hSw JA0; have hcq1 := cn hSw JA1; go_simp; try (with_reducible rfl))
      (try simp only [Act.put, List.setIfInBounds_toArray, List.set_cons_zero, List.set_cons_succ])
      refine take_d (i := 6) (v := ?vq41_7) rfl (by rfl) (by kernel_rfl) (by kernel_rfl) (by kernel_rfl) (fun _ _ _ h => h) (Or.inl ⟨by rfl, ?hq41_7⟩) (by assumption) ?rq41_7
      case hq41_7 => (intro wS hSw; (try dsimp only at hSw); go_simp; try (with_reducible rfl))
      (try simp only [Act.put, List.setIfInBounds_toArray, List.set_cons_zero, List.set_cons_succ])
      refine take_d (i := 7) (v := ?vq41_8) rfl (by rfl) (by kernel_rfl) (by kernel_rfl) (by kernel_rfl) (fun _ _ _ h => h) (Or.inl ⟨by rfl, ?hq41_8⟩) (by assumption) ?rq41_8
      case hq41_8 => (intro wS hSw; (try dsimp only at hSw); have hcq0 := cn hSw JA0; have hcq1 := cn hSw JA1; go_simp; try (with_reducible rfl))
      (try simp only [Act.put, List.setIfInBounds_toArray, List.set_cons_zero, List.set_cons_succ])
      refine take_d (i := 8) (v := ?vq41_9) rfl (by rfl) (by kernel_rfl) (by kernel_rfl) (by kernel_rfl) (fun _ _ _ h => h) (Or.inl ⟨by rfl, ?hq41_9⟩) (by assumption) ?rq41_9
      case hq41_9 => (intro wS hSw; (try dsimp only at hSw); go_simp; try (with_reducible rfl))
      (try simp only [Act.put, List.setIfInBounds_toArray, List.set_cons_zero, List.set_cons_succ])
      refine take_d (i := 9) (v := ?vq41_10) rfl (by rfl) (by kernel_rfl) (by kernel_rfl) (by kernel_rfl) (fun _ _ _ h => h) (Or.inl ⟨by rfl, ?hq41_10⟩) (by assumption) ?rq41_10
      case hq41_10 => (intro wS hSw; (try dsimp only at hSw); have hcq0 := cn hSw JA0; have hcq1 := cn hSw JA1; go_simp; try (with_reducible rfl))
      (try simp only [Act.put, List.setIfInBounds_toArray, List.set_cons_zero, List.set_cons_succ])
      refine take_d (i := 10) (v := ?vq41_11) rfl (by rfl) (by kernel_rfl) (by kernel_rfl) (by kernel_rfl) (fun _ _ _ h => h) (Or.inl ⟨by rfl, ?hq41_11⟩) (by assumption) ?rq41_11
      case hq41_11 => (intro wS hSw; (try dsimp only at hSw); go_simp; try (with_reducible rfl))
      (try simp only [Act.put, List.setIfInBounds_toArray, List.set_cons_zero, List.set_cons_succ])
      refine wpAnyH_ready (rs := [11]) (by kernel_rfl) (by simp) ?_
      refine AllReadyH.cons rfl (fun K hK => ?_) AllReadyH.nil
      go_simp
      go_at_call 46
      refine (HT.out _).mono ?_
      rintro e wq41_12 ⟨rfl, bkq41_12⟩
      have hBn := below_next hBk bkq41_12
      clear hBk bkq41_12
      have hBk := hBn
      clear hBn
      try go_simp
      refine hK.out _ _ ?_ (fun hHeld => ?_)
      · (try dsimp only); exact hBk
      clear hK K
      (try simp only [Act.put, List.setIfInBounds_toArray, List.set_cons_zero, List.set_cons_succ])
      refine take_d (i := 12) (v := ?vq41_13) rfl (by rfl) (by kernel_rfl) (by kernel_rfl) (by kernel_rfl) (fun _ _ _ h => h) (Or.inl ⟨by rfl, ?hq41_13⟩) (by assumption) ?rq41_13
      case hq41_13 => (intro wS hSw; (try dsimp only at hSw); go_simp; try (with_reducible rfl))
      (try simp only [Act.put, List.setIfInBounds_toArray, List.set_cons_zero, List.set_cons_succ])
      refine take_d (i := 13) (v := ?vq41_14) rfl (by rfl) (by kernel_rfl) (by kernel_rfl) (by kernel_rfl) (fun _ _ _ h => h) (Or.inl ⟨by rfl, ?hq41_14⟩) (by assumption) ?rq41_14
      case hq41_14 => (intro wS hSw; (try dsimp only at hSw); go_simp; try (with_reducible rfl))
      (try simp only [Act.put, List.setIfInBounds_toArray, List.set_cons_zero, List.set_cons_succ])
      refine take_d (i := 14) (v := ?vq41_15) rfl (by rfl) (by kernel_rfl) (by kernel_rfl) (by kernel_rfl) (fun _ _ _ h => h) (Or.inl ⟨by rfl, ?hq41_15⟩) (by assumption) ?rq41_15
      case hq41_15 => (intro wS hSw; (try dsimp only at hSw); have hcq0 := cn hSw JA0; have hcq1 := cn hSw JA1; go_simp; try (with_reducible rfl))
      (try simp only [Act.put, List.setIfInBounds_toArray, List.set_cons_zero, List.set_cons_succ])
      refine take_d (i := 17) (v := ?vq41_16) rfl (by rfl) (by kernel_rfl) (by kernel_rfl) (by kernel_rfl) (fun _ _ _ h => h) (Or.inl ⟨by rfl, ?hq41_16⟩) (by assumption) ?rq41_16
      case hq41_16 => (intro wS hSw; (try dsimp only at hSw); go_simp; try (with_reducible rfl))
      (try simp only [Act.put, List.setIfInBounds_toArray, List.set_cons_zero, List.set_cons_succ])
      refine take_d (i := 18) (v := ?vq41_17) rfl (by rfl) (by kernel_rfl) (by kernel_rfl) (by kernel_rfl) (fun _ _ _ h => h) (Or.inl ⟨by rfl, ?hq41_17⟩) (by assumption) ?rq41_17
      case hq41_17 => (intro wS hSw; (try dsimp only at hSw); have hcq0 := cn hSw JA0; have hcq1 := cn hSw JA1; go_simp; try (with_reducible rfl))
      (try simp only [Act.put, List.setIfInBounds_toArray, List.set_cons_zero, List.set_cons_succ])
      refine take_d (i := 19) (v := ?vq41_18) rfl (by rfl) (by kernel_rfl) (by kernel_rfl) (by kernel_rfl) (fun _ _ _ h => h) (Or.inl ⟨by rfl, ?hq41_18⟩) (by assumption) ?rq41_18
      case hq41_18 => (intro wS hSw; (try dsimp only at hSw); go_simp; try (with_reducible rfl))
      (try simp only [Act.put, List.setIfInBounds_toArray, List.set_cons_zero, List.set_cons_succ])
      refine wpAnyH_ready (rs := [15]) (by kernel_rfl) (by simp) ?_
      refine AllReadyH.cons rfl (fun K hK => ?_) AllReadyH.nil
      go_simp
      go_at_call 49
      refine (FR.out _).mono ?_
      rintro e wq41_19 ⟨rfl, bkq41_19⟩
      have hBn := below_next hBk bkq41_19
      clear hBk bkq41_19
      have hBk := hBn
      clear hBn
      try go_simp
      refine hK.out _ _ ?_ (fun hHeld => ?_)
      · (try dsimp only); exact hBk
      clear hK K
      (try simp only [Act.put, List.setIfInBounds_toArray, List.set_cons_zero, List.set_cons_succ])
      refine take_d (i := 16) (v := ?vq41_20) rfl (by rfl) (by kernel_rfl) (by kernel_rfl) (by kernel_rfl) (fun _ _ _ h => h) (Or.inl ⟨by rfl, ?hq41_20⟩) (by assumption) ?rq41_20
      case hq41_20 => (intro wS hSw; (try dsimp only at hSw); go_simp; try (with_reducible rfl))
      (try simp only [Act.put, List.setIfInBounds_toArray, List.set_cons_zero, List.set_cons_succ])
      refine take_d (i := 20) (v := ?vq41_21) rfl (by rfl) (by kernel_rfl) (by kernel_rfl) (by kernel_rfl) (fun _ _ _ h => h) (Or.inl ⟨by rfl, ?hq41_21⟩) (by assumption) ?rq41_21
      case hq41_21 => (intro wS hSw; (try dsimp only at hSw); go_simp; try (with_reducible rfl))
      (try simp only [Act.put, List.setIfInBounds_toArray, List.set_cons_zero, List.set_cons_succ])
      refine take_d (i := 21) (v := ?vq41_22) rfl (by rfl) (by kernel_rfl) (by kernel_rfl) (by kernel_rfl) (fun _ _ _ h => h) (Or.inl ⟨by rfl, ?hq41_22⟩) (by assumption) ?rq41_22
      case hq41_22 => (intro wS hSw; (try dsimp only at hSw); go_simp; try (with_reducible rfl))
      (try simp only [Act.put, List.setIfInBounds_toArray, List.set_cons_zero, List.set_cons_succ])
      refine take_d (i := 22) (v := ?vq41_23) rfl (by rfl) (by kernel_rfl) (by kernel_rfl) (by kernel_rfl) (fun _ _ _ h => h) (Or.inl ⟨by rfl, ?hq41_23⟩) (by assumption) ?rq41_23
      case hq41_23 => (intro wS hSw; (try dsimp only at hSw); go_simp; try (with_reducible rfl))
      (try simp only [Act.put, List.setIfInBounds_toArray, List.set_cons_zero, List.set_cons_succ])
      refine wpAnyH_done (by kernel_rfl) ?_ _
      clear JA0 JA1 JAl JB0 JB1 JBl JC0 JC1 JCl JJ0 JJ1 JJl JM0 JM1 JMl lB
      generalize wq41_19 = w18 at hBk ⊢
      replace JA := JA.below hBk
      replace JB := JB.below hBk
      replace JC := JC.below hBk
      replace JJ := JJ.below hBk
      replace JM := JM.below hBk
      replace B := below_next B hBk
      clear hBk
      go_wp2
      go_ret
      exact ⟨rfl, B⟩
    · skip
      have JA0 := JA.2.1
      have JA1 := JA.2.2
      have JAl := JA.1
      have JB0 := JB.2.1
      have JB1 := JB.2.2
      have JBl := JB.1
      have JC0 := JC.2.1
      have JC1 := JC.2.2
      have JCl := JC.1
      have JJ0 := JJ.2.1
      have JJ1 := JJ.2.2
      have JJl := JJ.1
      have JM0 := JM.2.1
      have JM1 := JM.2.2
      have JMl := JM.1
      have lB := B.size
      go_wp2_with fail
      refine (Icb.out _).mono ?_
      rintro e w18 ⟨rfl, z⟩
      clear JA0 JA1 JAl JB0 JB1 JBl JC0 JC1 JCl JJ0 JJ1 JJl JM0 JM1 JMl lB
      replace JA := JA.below z
      replace JB := JB.below z
      replace JC := JC.below z
      replace JJ := JJ.below z
      replace JM := JM.below z
      replace B := below_next B z
      clear z
      cases cb
      · skip
        have hce := hce.out
        have JA0 := JA.2.1
        have JA1 := JA.2.2
        have JAl := JA.1
        have JB0 := JB.2.1
        have JB1 := JB.2.2
        have JBl := JB.1
        have JC0 := JC.2.1
        have JC1 := JC.2.2
        have JCl := JC.1
        have JJ0 := JJ.2.1
        have JJ1 := JJ.2.2
        have JJl := JJ.1
        have JM0 := JM.2.1
        have JM1 := JM.2.2
        have JMl := JM.1
        have lB := B.size
        go_wp2_with fail
        refine wp_region_held_drew (S := (fun w' : World => Below w18.heap.size w18 w')) (by kernel_rfl) ?_ (fun hHeld => ?_)
        · (try dsimp only); first | (with_reducible exact below_dr _) | (with_reducible exact Below.refl _ _) | exact below_dr _
        have hBk := below_dr w18
        refine take_d (i := 0) (v := ?vq42_1) rfl (by rfl) (by kernel_rfl) (by kernel_rfl) (by kernel_rfl) (fun _ _ _ h => h) (Or.inl ⟨by rfl, ?hq42_1⟩) (by assumption) ?rq42_1
        case hq42_1 => (intro wS hSw; (try dsimp only at hSw); have hcq0 := cn hSw JA0; have hcq1 := cn hSw JA1; go_simp; try (with_reducible rfl))
        (try simp only [Act.put, List.setIfInBounds_toArray, List.set_cons_zero, List.set_cons_succ])
        refine take_d (i := 1) (v := ?vq42_2) rfl (by rfl) (by kernel_rfl) (by kernel_rfl) (by kernel_rfl) (fun _ _ _ h => h) (Or.inl ⟨by rfl, ?hq42_2⟩) (by assumption) ?rq42_2
        case hq42_2 => (intro wS hSw; (try dsimp only at hSw); go_simp; try (with_reducible rfl))
        (try simp only [Act.put, List.setIfInBounds_toArray, List.set_cons_zero, List.set_cons_succ])
        refine take_d (i := 2) (v := ?vq42_3) rfl (by rfl) (by kernel_rfl) (by kernel_rfl) (by kernel_rfl) (fun _ _ _ h => h) (Or.inl ⟨by rfl, ?hq42_3⟩) (by assumption) ?rq42_3
        case hq42_3 => (intro wS hSw; (try dsimp only at hSw); have hcq0 := cn hSw JA0; have hcq1 := cn hSw JA1; go_simp; try (with_reducible rfl))
        (try simp only [Act.put, List.setIfInBounds_toArray, List.set_cons_zero, List.set_cons_succ])
        refine wpAnyH_ready (rs := [3]) (by kernel_rfl) (by simp) ?_
        refine AllReadyH.cons rfl (fun K hK => ?_) AllReadyH.nil
        go_simp
        go_at_call 46
        refine (HL.out _).mono ?_
        rintro e wq42_4 ⟨rfl, bkq42_4⟩
        have hBn := below_next hBk bkq42_4
        clear hBk bkq42_4
        have hBk := hBn
        clear hBn
        try go_simp
        refine hK.out _ _ ?_ (fun hHeld => ?_)
        · (try dsimp only); exact hBk
        clear hK K
        (try simp only [Act.put, List.setIfInBounds_toArray, List.set_cons_zero, List.set_cons_succ])
        refine take_d (i := 4) (v := ?vq42_5) rfl (by rfl) (by kernel_rfl) (by kernel_rfl) (by kernel_rfl) (fun _ _ _ h => h) (Or.inl ⟨by rfl, ?hq42_5⟩) (by assumption) ?rq42_5
        case hq42_5 => (intro wS hSw; (try dsimp only at hSw); go_simp; try (with_reducible rfl))
        (try simp only [Act.put, List.setIfInBounds_toArray, List.set_cons_zero, List.set_cons_succ])
        refine take_d (i := 5) (v := ?vq42_6) rfl (by rfl) (by kernel_rfl) (by kernel_rfl) (by kernel_rfl) (fun _ _ _ h => h) (Or.inl ⟨by rfl, ?hq42_6⟩) (by assumption) ?rq42_6
        case hq42_6 => (intro wS hSw; (try dsimp only at hSw); have hcq0 := cn hSw JA0; have hcq1 := cn hSw JA1; go_simp; try (with_reducible rfl))
        (try simp only [Act.put, List.setIfInBounds_toArray, List.set_cons_zero, List.set_cons_succ])
        refine take_d (i := 6) (v := ?vq42_7) rfl (by rfl) (by kernel_rfl) (by kernel_rfl) (by kernel_rfl) (fun _ _ _ h => h) (Or.inl ⟨by rfl, ?hq42_7⟩) (by assumption) ?rq42_7
        case hq42_7 => (intro wS hSw; (try dsimp only at hSw); go_simp; try (with_reducible rfl))
        (try simp only [Act.put, List.setIfInBounds_toArray, List.set_cons_zero, List.set_cons_succ])
        refine take_d (i := 7) (v := ?vq42_8) rfl (by rfl) (by kernel_rfl) (by kernel_rfl) (by kernel_rfl) (fun _ _ _ h => h) (Or.inl ⟨by rfl, ?hq42_8⟩) (by assumption) ?rq42_8
        case hq42_8 => (intro wS hSw; (try dsimp only at hSw); have hcq0 := cn hSw JA0; have hcq1 := cn hSw JA1; go_simp; try (with_reducible rfl))
        (try simp only [Act.put, List.setIfInBounds_toArray, List.set_cons_zero, List.set_cons_succ])
        refine take_d (i := 8) (v := ?vq42_9) rfl (by rfl) (by kernel_rfl) (by kernel_rfl) (by kernel_rfl) (fun _ _ _ h => h) (Or.inl ⟨by rfl, ?hq42_9⟩) (by assumption) ?rq42_9
        case hq42_9 => (intro wS hSw; (try dsimp only at hSw); go_simp; try (with_reducible rfl))
        (try simp only [Act.put, List.setIfInBounds_toArray, List.set_cons_zero, List.set_cons_succ])
        refine take_d (i := 9) (v := ?vq42_10) rfl (by rfl) (by kernel_rfl) (by kernel_rfl) (by kernel_rfl) (fun _ _ _ h => h) (Or.inl ⟨by rfl, ?hq42_10⟩) (by assumption) ?rq42_10
        case hq42_10 => (intro wS hSw; (try dsimp only at hSw); have hcq0 := cn hSw JA0; have hcq1 := cn hSw JA1; go_simp; try (with_reducible rfl))
        (try simp only [Act.put, List.setIfInBounds_toArray, List.set_cons_zero, List.set_cons_succ])
        refine take_d (i := 10) (v := ?vq42_11) rfl (by rfl) (by kernel_rfl) (by kernel_rfl) (by kernel_rfl) (fun _ _ _ h => h) (Or.inl ⟨by rfl, ?hq42_11⟩) (by assumption) ?rq42_11
        case hq42_11 => (intro wS hSw; (try dsimp only at hSw); go_simp; try (with_reducible rfl))
        (try simp only [Act.put, List.setIfInBounds_toArray, List.set_cons_zero, List.set_cons_succ])
        refine wpAnyH_ready (rs := [11]) (by kernel_rfl) (by simp) ?_
        refine AllReadyH.cons rfl (fun K hK => ?_) AllReadyH.nil
        go_simp
        go_at_call 46
        refine (HT.out _).mono ?_
        rintro e wq42_12 ⟨rfl, bkq42_12⟩
        have hBn := below_next hBk bkq42_12
        clear hBk bkq42_12
        have hBk := hBn
        clear hBn
        try go_simp
        refine hK.out _ _ ?_ (fun hHeld => ?_)
        · (try dsimp only); exact hBk
        clear hK K
        (try simp only [Act.put, List.setIfInBounds_toArray, List.set_cons_zero, List.set_cons_succ])
        refine take_d (i := 12) (v := ?vq42_13) rfl (by rfl) (by kernel_rfl) (by kernel_rfl) (by kernel_rfl) (fun _ _ _ h => h) (Or.inl ⟨by rfl, ?hq42_13⟩) (by assumption) ?rq42_13
        case hq42_13 => (intro wS hSw; (try dsimp only at hSw); go_simp; try (with_reducible rfl))
        (try simp only [Act.put, List.setIfInBounds_toArray, List.set_cons_zero, List.set_cons_succ])
        refine take_d (i := 13) (v := ?vq42_14) rfl (by rfl) (by kernel_rfl) (by kernel_rfl) (by kernel_rfl) (fun _ _ _ h => h) (Or.inl ⟨by rfl, ?hq42_14⟩) (by assumption) ?rq42_14
        case hq42_14 => (intro wS hSw; (try dsimp only at hSw); go_simp; try (with_reducible rfl))
        (try simp only [Act.put, List.setIfInBounds_toArray, List.set_cons_zero, List.set_cons_succ])
        refine take_d (i := 14) (v := ?vq42_15) rfl (by rfl) (by kernel_rfl) (by kernel_rfl) (by kernel_rfl) (fun _ _ _ h => h) (Or.inl ⟨by rfl, ?hq42_15⟩) (by assumption) ?rq42_15
        case hq42_15 => (intro wS hSw; (try dsimp only at hSw); have hcq0 := cn hSw JA0; have hcq1 := cn hSw JA1; go_simp; try (with_reducible rfl))
        (try simp only [Act.put, List.setIfInBounds_toArray, List.set_cons_zero, List.set_cons_succ])
        refine take_d (i := 17) (v := ?vq42_16) rfl (by rfl) (by kernel_rfl) (by kernel_rfl) (by kernel_rfl) (fun _ _ _ h => h) (Or.inl ⟨by rfl, ?hq42_16⟩) (by assumption) ?rq42_16
        case hq42_16 => (intro wS hSw; (try dsimp only at hSw); go_simp; try (with_reducible rfl))
        (try simp only [Act.put, List.setIfInBounds_toArray, List.set_cons_zero, List.set_cons_succ])
        refine take_d (i := 18) (v := ?vq42_17) rfl (by rfl) (by kernel_rfl) (by kernel_rfl) (by kernel_rfl) (fun _ _ _ h => h) (Or.inl ⟨by rfl, ?hq42_17⟩) (by assumption) ?rq42_17
        case hq42_17 => (intro wS hSw; (try dsimp only at hSw); have hcq0 := cn hSw JA0; have hcq1 := cn hSw JA1; go_simp; try (with_reducible rfl))
        (try simp only [Act.put, List.setIfInBounds_toArray, List.set_cons_zero, List.set_cons_succ])
        refine take_d (i := 19) (v := ?vq42_18) rfl (by rfl) (by kernel_rfl) (by kernel_rfl) (by kernel_rfl) (fun _ _ _ h => h) (Or.inl ⟨by rfl, ?hq42_18⟩) (by assumption) ?rq42_18
        case hq42_18 => (intro wS hSw; (try dsimp only at hSw); go_simp; try (with_reducible rfl))
        (try simp only [Act.put, List.setIfInBounds_toArray, List.set_cons_zero, List.set_cons_succ])
        refine wpAnyH_ready (rs := [15]) (by kernel_rfl) (by simp) ?_
        refine AllReadyH.cons rfl (fun K hK => ?_) AllReadyH.nil
        go_simp
        go_at_call 49
        refine (FR.out _).mono ?_
        rintro e wq42_19 ⟨rfl, bkq42_19⟩
        have hBn := below_next hBk bkq42_19
        clear hBk bkq42_19
        have hBk := hBn
        clear hBn
        try go_simp
        refine hK.out _ _ ?_ (fun hHeld => ?_)
        · (try dsimp only); exact hBk
        clear hK K
        (try simp only [Act.put, List.setIfInBounds_toArray, List.set_cons_zero, List.set_cons_succ])
        refine take_d (i := 16) (v := ?vq42_20) rfl (by rfl) (by kernel_rfl) (by kernel_rfl) (by kernel_rfl) (fun _ _ _ h => h) (Or.inl ⟨by rfl, ?hq42_20⟩) (by assumption) ?rq42_20
        case hq42_20 => (intro wS hSw; (try dsimp only at hSw); go_simp; try (with_reducible rfl))
        (try simp only [Act.put, List.setIfInBounds_toArray, List.set_cons_zero, List.set_cons_succ])
        refine take_d (i := 20) (v := ?vq42_21) rfl (by rfl) (by kernel_rfl) (by kernel_rfl) (by kernel_rfl) (fun _ _ _ h => h) (Or.inl ⟨by rfl, ?hq42_21⟩) (by assumption) ?rq42_21
        case hq42_21 => (intro wS hSw; (try dsimp only at hSw); go_simp; try (with_reducible rfl))
        (try simp only [Act.put, List.setIfInBounds_toArray, List.set_cons_zero, List.set_cons_succ])
        refine take_d (i := 21) (v := ?vq42_22) rfl (by rfl) (by kernel_rfl) (by kernel_rfl) (by kernel_rfl) (fun _ _ _ h => h) (Or.inl ⟨by rfl, ?hq42_22⟩) (by assumption) ?rq42_22
        case hq42_22 => (intro wS hSw; (try dsimp only at hSw); go_simp; try (with_reducible rfl))
        (try simp only [Act.put, List.setIfInBounds_toArray, List.set_cons_zero, List.set_cons_succ])
        refine take_d (i := 22) (v := ?vq42_23) rfl (by rfl) (by kernel_rfl) (by kernel_rfl) (by kernel_rfl) (fun _ _ _ h => h) (Or.inl ⟨by rfl, ?hq42_23⟩) (by assumption) ?rq42_23
        case hq42_23 => (intro wS hSw; (try dsimp only at hSw); go_simp; try (with_reducible rfl))
        (try simp only [Act.put, List.setIfInBounds_toArray, List.set_cons_zero, List.set_cons_succ])
        refine wpAnyH_done (by kernel_rfl) ?_ _
        clear JA0 JA1 JAl JB0 JB1 JBl JC0 JC1 JCl JJ0 JJ1 JJl JM0 JM1 JMl lB
        generalize wq42_19 = w19 at hBk ⊢
        replace JA := JA.below hBk
        replace JB := JB.below hBk
        replace JC := JC.below hBk
        replace JJ := JJ.below hBk
        replace JM := JM.below hBk
        replace B := below_next B hBk
        clear hBk
        go_wp2
        go_ret
        exact ⟨rfl, B⟩
      · skip
        obtain rfl : cm = true := (cM.out (by trivial) (by trivial)).2
        have JA0 := JA.2.1
        have JA1 := JA.2.2
        have JAl := JA.1
        have JB0 := JB.2.1
        have JB1 := JB.2.2
        have JBl := JB.1
        have JC0 := JC.2.1
        have JC1 := JC.2.2
        have JCl := JC.1
        have JJ0 := JJ.2.1
        have JJ1 := JJ.2.2
        have JJl := JJ.1
        have JM0 := JM.2.1
        have JM1 := JM.2.2
        have JMl := JM.1
        have lB := B.size
        go_wp2_with fail
        refine (Icm.out _).mono ?_
        rintro e w19 ⟨rfl, z⟩
        clear JA0 JA1 JAl JB0 JB1 JBl JC0 JC1 JCl JJ0 JJ1 JJl JM0 JM1 JMl lB
        replace JA := JA.below z
        replace JB := JB.below z
        replace JC := JC.below z
        replace JJ := JJ.below z
        replace JM := JM.below z
        replace B := below_next B z
        clear z
        have hce := hce.out
        have JA0 := JA.2.1
        have JA1 := JA.2.2
        have JAl := JA.1
        have JB0 := JB.2.1
        have JB1 := JB.2.2
        have JBl := JB.1
        have JC0 := JC.2.1
        have JC1 := JC.2.2
        have JCl := JC.1
        have JJ0 := JJ.2.1
        have JJ1 := JJ.2.2
        have JJl := JJ.1
        have JM0 := JM.2.1
        have JM1 := JM.2.2
        have JMl := JM.1
        have lB := B.size
        go_wp2_with fail
        refine wp_region_held_drew (S := (fun w' : World => Below w19.heap.size w19 w')) (by kernel_rfl) ?_ (fun hHeld => ?_)
        · (try dsimp only); first | (with_reducible exact below_dr _) | (with_reducible exact Below.refl _ _) | exact below_dr _
        have hBk := below_dr w19
        refine take_d (i := 0) (v := ?vq43_1) rfl (by rfl) (by kernel_rfl) (by kernel_rfl) (by kernel_rfl) (fun _ _ _ h => h) (Or.inl ⟨by rfl, ?hq43_1⟩) (by assumption) ?rq43_1
        case hq43_1 => (intro wS hSw; (try dsimp only at hSw); have hcq0 := cn hSw JA0; have hcq1 := cn hSw JA1; go_simp; try (with_reducible rfl))
        (try simp only [Act.put, List.setIfInBounds_toArray, List.set_cons_zero, List.set_cons_succ])
        refine take_d (i := 1) (v := ?vq43_2) rfl (by rfl) (by kernel_rfl) (by kernel_rfl) (by kernel_rfl) (fun _ _ _ h => h) (Or.inl ⟨by rfl, ?hq43_2⟩) (by assumption) ?rq43_2
        case hq43_2 => (intro wS hSw; (try dsimp only at hSw); go_simp; try (with_reducible rfl))
        (try simp only [Act.put, List.setIfInBounds_toArray, List.set_cons_zero, List.set_cons_succ])
        refine take_d (i := 2) (v := ?vq43_3) rfl (by rfl) (by kernel_rfl) (by kernel_rfl) (by kernel_rfl) (fun _ _ _ h => h) (Or.inl ⟨by rfl, ?hq43_3⟩) (by assumption) ?rq43_3
        case hq43_3 => (intro wS hSw; (try dsimp only at hSw); have hcq0 := cn hSw JA0; have hcq1 := cn hSw JA1; go_simp; try (with_reducible rfl))
        (try simp only [Act.put, List.setIfInBounds_toArray, List.set_cons_zero, List.set_cons_succ])
        refine wpAnyH_ready (rs := [3]) (by kernel_rfl) (by simp) ?_
        refine AllReadyH.cons rfl (fun K hK => ?_) AllReadyH.nil
        go_simp
        go_at_call 46
        refine (HL.out _).mono ?_
        rintro e wq43_4 ⟨rfl, bkq43_4⟩
        have hBn := below_next hBk bkq43_4
        clear hBk bkq43_4
        have hBk := hBn
        clear hBn
        try go_simp
        refine hK.out _ _ ?_ (fun hHeld => ?_)
        · (try dsimp only); exact hBk
        clear hK K
        (try simp only [Act.put, List.setIfInBounds_toArray, List.set_cons_zero, List.set_cons_succ])
        refine take_d (i := 4) (v := ?vq43_5) rfl (by rfl) (by kernel_rfl) (by kernel_rfl) (by kernel_rfl) (fun _ _ _ h => h) (Or.inl ⟨by rfl, ?hq43_5⟩) (by assumption) ?rq43_5
        case hq43_5 => (intro wS hSw; (try dsimp only at hSw); go_simp; try (with_reducible rfl))
        (try simp only [Act.put, List.setIfInBounds_toArray, List.set_cons_zero, List.set_cons_succ])
        refine take_d (i := 5) (v := ?vq43_6) rfl (by rfl) (by kernel_rfl) (by kernel_rfl) (by kernel_rfl) (fun _ _ _ h => h) (Or.inl ⟨by rfl, ?hq43_6⟩) (by assumption) ?rq43_6
        case hq43_6 => (intro wS hSw; (try dsimp only at hSw); have hcq0 := cn hSw JA0; have hcq1 := cn hSw JA1; go_simp; try (with_reducible rfl))
        (try simp only [Act.put, List.setIfInBounds_toArray, List.set_cons_zero, List.set_cons_succ])
        refine take_d (i := 6) (v := ?vq43_7) rfl (by rfl) (by kernel_rfl) (by kernel_rfl) (by kernel_rfl) (fun _ _ _ h => h) (Or.inl ⟨by rfl, ?hq43_7⟩) (by assumption) ?rq43_7
        case hq43_7 => (intro wS hSw; (try dsimp only at hSw); go_simp; try (with_reducible rfl))
        (try simp only [Act.put, List.setIfInBounds_toArray, List.set_cons_zero, List.set_cons_succ])
        refine take_d (i := 7) (v := ?vq43_8) rfl (by rfl) (by kernel_rfl) (by kernel_rfl) (by kernel_rfl) (fun _ _ _ h => h) (Or.inl ⟨by rfl, ?hq43_8⟩) (by assumption) ?rq43_8
        case hq43_8 => (intro wS hSw; (try dsimp only at hSw); have hcq0 := cn hSw JA0; have hcq1 := cn hSw JA1; go_simp; try (with_reducible rfl))
        (try simp only [Act.put, List.setIfInBounds_toArray, List.set_cons_zero, List.set_cons_succ])
        refine take_d (i := 8) (v := ?vq43_9) rfl (by rfl) (by kernel_rfl) (by kernel_rfl) (by kernel_rfl) (fun _ _ _ h => h) (Or.inl ⟨by rfl, ?hq43_9⟩) (by assumption) ?rq43_9
        case hq43_9 => (intro wS hSw; (try dsimp only at hSw); go_simp; try (with_reducible rfl))
        (try simp only [Act.put, List.setIfInBounds_toArray, List.set_cons_zero, List.set_cons_succ])
        refine take_d (i := 9) (v := ?vq43_10) rfl (by rfl) (by kernel_rfl) (by kernel_rfl) (by kernel_rfl) (fun _ _ _ h => h) (Or.inl ⟨by rfl, ?hq43_10⟩) (by assumption) ?rq43_10
        case hq43_10 => (intro wS hSw; (try dsimp only at hSw); have hcq0 := cn hSw JA0; have hcq1 := cn hSw JA1; go_simp; try (with_reducible rfl))
        (try simp only [Act.put, List.setIfInBounds_toArray, List.set_cons_zero, List.set_cons_succ])
        refine take_d (i := 10) (v := ?vq43_11) rfl (by rfl) (by kernel_rfl) (by kernel_rfl) (by kernel_rfl) (fun _ _ _ h => h) (Or.inl ⟨by rfl, ?hq43_11⟩) (by assumption) ?rq43_11
        case hq43_11 => (intro wS hSw; (try dsimp only at hSw); go_simp; try (with_reducible rfl))
        (try simp only [Act.put, List.setIfInBounds_toArray, List.set_cons_zero, List.set_cons_succ])
        refine wpAnyH_ready (rs := [11]) (by kernel_rfl) (by simp) ?_
        refine AllReadyH.cons rfl (fun K hK => ?_) AllReadyH.nil
        go_simp
        go_at_call 46
        refine (HT.out _).mono ?_
        rintro e wq43_12 ⟨rfl, bkq43_12⟩
        have hBn := below_next hBk bkq43_12
        clear hBk bkq43_12
        have hBk := hBn
        clear hBn
        try go_simp
        refine hK.out _ _ ?_ (fun hHeld => ?_)
        · (try dsimp only); exact hBk
        clear hK K
        (try simp only [Act.put, List.setIfInBounds_toArray, List.set_cons_zero, List.set_cons_succ])
        refine take_d (i := 12) (v := ?vq43_13) rfl (by rfl) (by kernel_rfl) (by kernel_rfl) (by kernel_rfl) (fun _ _ _ h => h) (Or.inl ⟨by rfl, ?hq43_13⟩) (by assumption) ?rq43_13
        case hq43_13 => (intro wS hSw; (try dsimp only at hSw); go_simp; try (with_reducible rfl))
        (try simp only [Act.put, List.setIfInBounds_toArray, List.set_cons_zero, List.set_cons_succ])
        refine take_d (i := 13) (v := ?vq43_14) rfl (by rfl) (by kernel_rfl) (by kernel_rfl) (by kernel_rfl) (fun _ _ _ h => h) (Or.inl ⟨by rfl, ?hq43_14⟩) (by assumption) ?rq43_14
        case hq43_14 => (intro wS hSw; (try dsimp only at hSw); go_simp; try (with_reducible rfl))
        (try simp only [Act.put, List.setIfInBounds_toArray, List.set_cons_zero, List.set_cons_succ])
        refine take_d (i := 14) (v := ?vq43_15) rfl (by rfl) (by kernel_rfl) (by kernel_rfl) (by kernel_rfl) (fun _ _ _ h => h) (Or.inl ⟨by rfl, ?hq43_15⟩) (by assumption) ?rq43_15
        case hq43_15 => (intro wS hSw; (try dsimp only at hSw); have hcq0 := cn hSw JA0; have hcq1 := cn hSw JA1; go_simp; try (with_reducible rfl))
        (try simp only [Act.put, List.setIfInBounds_toArray, List.set_cons_zero, List.set_cons_succ])
        refine take_d (i := 17) (v := ?vq43_16) rfl (by rfl) (by kernel_rfl) (by kernel_rfl) (by kernel_rfl) (fun _ _ _ h => h) (Or.inl ⟨by rfl, ?hq43_16⟩) (by assumption) ?rq43_16
        case hq43_16 => (intro wS hSw; (try dsimp only at hSw); go_simp; try (with_reducible rfl))
        (try simp only [Act.put, List.setIfInBounds_toArray, List.set_cons_zero, List.set_cons_succ])
        refine take_d (i := 18) (v := ?vq43_17) rfl (by rfl) (by kernel_rfl) (by kernel_rfl) (by kernel_rfl) (fun _ _ _ h => h) (Or.inl ⟨by rfl, ?hq43_17⟩) (by assumption) ?rq43_17
        case hq43_17 => (intro wS hSw; (try dsimp only at hSw); have hcq0 := cn hSw JA0; have hcq1 := cn hSw JA1; go_simp; try (with_reducible rfl))
        (try simp only [Act.put, List.setIfInBounds_toArray, List.set_cons_zero, List.set_cons_succ])
        refine take_d (i := 19) (v := ?vq43_18) rfl (by rfl) (by kernel_rfl) (by kernel_rfl) (by kernel_rfl) (fun _ _ _ h => h) (Or.inl ⟨by rfl, ?hq43_18⟩) (by assumption) ?rq43_18
        case hq43_18 => (intro wS hSw; (try dsimp only at hSw); go_simp; try (with_reducible rfl))
        (try simp only [Act.put, List.setIfInBounds_toArray, List.set_cons_zero, List.set_cons_succ])
        refine wpAnyH_ready (rs := [15]) (by kernel_rfl) (by simp) ?_
        refine AllReadyH.cons rfl (fun K hK => ?_) AllReadyH.nil
        go_simp
        go_at_call 49
        refine (FR.out _).mono ?_
        rintro e wq43_19 ⟨rfl, bkq43_19⟩
        have hBn := below_next hBk bkq43_19
        clear hBk bkq43_19
        have hBk := hBn
        clear hBn
        try go_simp
        refine hK.out _ _ ?_ (fun hHeld => ?_)
        · (try dsimp only); exact hBk
        clear hK K
        (try simp only [Act.put, List.setIfInBounds_toArray, List.set_cons_zero, List.set_cons_succ])
        refine take_d (i := 16) (v := ?vq43_20) rfl (by rfl) (by kernel_rfl) (by kernel_rfl) (by kernel_rfl) (fun _ _ _ h => h) (Or.inl ⟨by rfl, ?hq43_20⟩) (by assumption) ?rq43_20
        case hq43_20 => (intro wS hSw; (try dsimp only at hSw); go_simp; try (with_reducible rfl))
        (try simp only [Act.put, List.setIfInBounds_toArray, List.set_cons_zero, List.set_cons_succ])
        refine take_d (i := 20) (v := ?vq43_21) rfl (by rfl) (by kernel_rfl) (by kernel_rfl) (by kernel_rfl) (fun _ _ _ h => h) (Or.inl ⟨by rfl, ?hq43_21⟩) (by assumption) ?rq43_21
        case hq43_21 => (intro wS hSw; (try dsimp only at hSw); go_simp; try (with_reducible rfl))
        (try simp only [Act.put, List.setIfInBounds_toArray, List.set_cons_zero, List.set_cons_succ])
        refine take_d (i := 21) (v := ?vq43_22) rfl (by rfl) (by kernel_rfl) (by kernel_rfl) (by kernel_rfl) (fun _ _ _ h => h) (Or.inl ⟨by rfl, ?hq43_22⟩) (by assumption) ?rq43_22
        case hq43_22 => (intro wS hSw; (try dsimp only at hSw); go_simp; try (with_reducible rfl))
        (try simp only [Act.put, List.setIfInBounds_toArray, List.set_cons_zero, List.set_cons_succ])
        refine take_d (i := 22) (v := ?vq43_23) rfl (by rfl) (by kernel_rfl) (by kernel_rfl) (by kernel_rfl) (fun _ _ _ h => h) (Or.inl ⟨by rfl, ?hq43_23⟩) (by assumption) ?rq43_23
        case hq43_23 => (intro wS hSw; (try dsimp only at hSw); go_simp; try (with_reducible rfl))
        (try simp only [Act.put, List.setIfInBounds_toArray, List.set_cons_zero, List.set_cons_succ])
        refine wpAnyH_done (by kernel_rfl) ?_ _
        clear JA0 JA1 JAl JB0 JB1 JBl JC0 JC1 JCl JJ0 JJ1 JJl JM0 JM1 JMl lB
        generalize wq43_19 = w20 at hBk ⊢
        replace JA := JA.below hBk
        replace JB := JB.below hBk
        replace JC := JC.below hBk
        replace JJ := JJ.below hBk
        replace JM := JM.below hBk
        replace B := below_next B hBk
        clear hBk
        go_wp2
        go_ret
        exact ⟨rfl, B⟩
  · skip
    clear mA mB
    have hNo : ca = true → cb = false := fun h => by
      cases hh : cb
      · rfl
      · exact absurd (cM.out h hh).1 (by decide)
    replace hNo := hid hNo
    clear cM
    have JA0 := JA.2.1
    have JA1 := JA.2.2
    have JAl := JA.1
    have JB0 := JB.2.1
    have JB1 := JB.2.2
    have JBl := JB.1
    have JC0 := JC.2.1
    have JC1 := JC.2.2
    have JCl := JC.1
    have JJ0 := JJ.2.1
    have JJ1 := JJ.2.2
    have JJl := JJ.1
    have lB := B.size
    go_wp2_with fail
    clear JA0 JA1 JAl JB0 JB1 JBl JC0 JC1 JCl JJ0 JJ1 JJl lB
    have JM : TC (w13.alloc (.cells #[.int .u64 (ub t0.1), .int .u64 (ub t0.2)] 24)) w13.heap.size t0 := TC.new rfl
    replace JA := JA.alloc (.cells #[.int .u64 (ub t0.1), .int .u64 (ub t0.2)] 24)
    replace JB := JB.alloc (.cells #[.int .u64 (ub t0.1), .int .u64 (ub t0.2)] 24)
    replace JC := JC.alloc (.cells #[.int .u64 (ub t0.1), .int .u64 (ub t0.2)] 24)
    replace JJ := JJ.alloc (.cells #[.int .u64 (ub t0.1), .int .u64 (ub t0.2)] 24)
    replace B := Below.alloc B B.size (.cells #[.int .u64 (ub t0.1), .int .u64 (ub t0.2)] 24)
    generalize w13.alloc (.cells #[.int .u64 (ub t0.1), .int .u64 (ub t0.2)] 24) = w14 at *
    generalize w13.heap.size = g2 at *
    have JA0 := JA.2.1
    have JA1 := JA.2.2
    have JAl := JA.1
    have JB0 := JB.2.1
    have JB1 := JB.2.2
    have JBl := JB.1
    have JC0 := JC.2.1
    have JC1 := JC.2.2
    have JCl := JC.1
    have JJ0 := JJ.2.1
    have JJ1 := JJ.2.2
    have JJl := JJ.1
    have JM0 := JM.2.1
    have JM1 := JM.2.2
    have JMl := JM.1
    have lB := B.size
    go_wp2_with fail
    refine (Ica.out _).mono ?_
    rintro e w15 ⟨rfl, z⟩
    clear JA0 JA1 JAl JB0 JB1 JBl JC0 JC1 JCl JJ0 JJ1 JJl JM0 JM1 JMl lB
    replace JA := JA.below z
    replace JB := JB.below z
    replace JC := JC.below z
    replace JJ := JJ.below z
    replace JM := JM.below z
    replace B := below_next B z
    clear z
    cases ca
    · skip
      have hce := hce.out
      have JA0 := JA.2.1
      have JA1 := JA.2.2
      have JAl := JA.1
      have JB0 := JB.2.1
      have JB1 := JB.2.2
      have JBl := JB.1
      have JC0 := JC.2.1
      have JC1 := JC.2.2
      have JCl := JC.1
      have JJ0 := JJ.2.1
      have JJ1 := JJ.2.2
      have JJl := JJ.1
      have JM0 := JM.2.1
      have JM1 := JM.2.2
      have JMl := JM.1
      have lB := B.size
      go_wp2_with fail
      refine wp_region_held_drew (S := (fun w' : World => Below w15.heap.size w15 w')) (by kernel_rfl) ?_ (fun hHeld => ?_)
      · (try dsimp only); first | (with_reducible exact below_dr _) | (with_reducible exact Below.refl _ _) | exact below_dr _
      have hBk := below_dr w15
      refine take_d (i := 0) (v := ?vq44_1) rfl (by rfl) (by kernel_rfl) (by kernel_rfl) (by kernel_rfl) (fun _ _ _ h => h) (Or.inl ⟨by rfl, ?hq44_1⟩) (by assumption) ?rq44_1
      case hq44_1 => (intro wS hSw; (try dsimp only at hSw); have hcq0 := cn hSw JA0; have hcq1 := cn hSw JA1; go_simp; try (with_reducible rfl))
      (try simp only [Act.put, List.setIfInBounds_toArray, List.set_cons_zero, List.set_cons_succ])
      refine take_d (i := 1) (v := ?vq44_2) rfl (by rfl) (by kernel_rfl) (by kernel_rfl) (by kernel_rfl) (fun _ _ _ h => h) (Or.inl ⟨by rfl, ?hq44_2⟩) (by assumption) ?rq44_2
      case hq44_2 => (intro wS hSw; (try dsimp only at hSw); go_simp; try (with_reducible rfl))
      (try simp only [Act.put, List.setIfInBounds_toArray, List.set_cons_zero, List.set_cons_succ])
      refine take_d (i := 2) (v := ?vq44_3) rfl (by rfl) (by kernel_rfl) (by kernel_rfl) (by kernel_rfl) (fun _ _ _ h => h) (Or.inl ⟨by rfl, ?hq44_3⟩) (by assumption) ?rq44_3
      case hq44_3 => (intro wS hSw; (try dsimp only at hSw); have hcq0 := cn hSw JA0; have hcq1 := cn hSw JA1; go_simp; try (with_reducible rfl))
      (try simp only [Act.put, List.setIfInBounds_toArray, List.set_cons_zero, List.set_cons_succ])
      refine wpAnyH_ready (rs := [3]) (by kernel_rfl) (by simp) ?_
      refine AllReadyH.cons rfl (fun K hK => ?_) AllReadyH.nil
      go_simp
      go_at_call 46
      refine (HL.out _).mono ?_
      rintro e wq44_4 ⟨rfl, bkq44_4⟩
      have hBn := below_next hBk bkq44_4
      clear hBk bkq44_4
      have hBk := hBn
      clear hBn
      try go_simp
      refine hK.out _ _ ?_ (fun hHeld => ?_)
      · (try dsimp only); exact hBk
      clear hK K
      (try simp only [Act.put, List.setIfInBounds_toArray, List.set_cons_zero, List.set_cons_succ])
      refine take_d (i := 4) (v := ?vq44_5) rfl (by rfl) (by kernel_rfl) (by kernel_rfl) (by kernel_rfl) (fun _ _ _ h => h) (Or.inl ⟨by rfl, ?hq44_5⟩) (by assumption) ?rq44_5
      case hq44_5 => (intro wS hSw; (try dsimp only at hSw); go_simp; try (with_reducible rfl))
      (try simp only [Act.put, List.setIfInBounds_toArray, List.set_cons_zero, List.set_cons_succ])
      refine take_d (i := 5) (v := ?vq44_6) rfl (by rfl) (by kernel_rfl) (by kernel_rfl) (by kernel_rfl) (fun _ _ _ h => h) (Or.inl ⟨by rfl, ?hq44_6⟩) (by assumption) ?rq44_6
      case hq44_6 => (intro wS hSw; (try dsimp only at hSw); have hcq0 := cn hSw JA0; have hcq1 := cn hSw JA1; go_simp; try (with_reducible rfl))
      (try simp only [Act.put, List.setIfInBounds_toArray, List.set_cons_zero, List.set_cons_succ])
      refine take_d (i := 6) (v := ?vq44_7) rfl (by rfl) (by kernel_rfl) (by kernel_rfl) (by kernel_rfl) (fun _ _ _ h => h) (Or.inl ⟨by rfl, ?hq44_7⟩) (by assumption) ?rq44_7
      case hq44_7 => (intro wS hSw; (try dsimp only at hSw); go_simp; try (with_reducible rfl))
      (try simp only [Act.put, List.setIfInBounds_toArray, List.set_cons_zero, List.set_cons_succ])
      refine take_d (i := 7) (v := ?vq44_8) rfl (by rfl) (by kernel_rfl) (by kernel_rfl) (by kernel_rfl) (fun _ _ _ h => h) (Or.inl ⟨by rfl, ?hq44_8⟩) (by assumption) ?rq44_8
      case hq44_8 => (intro wS hSw; (try dsimp only at hSw); have hcq0 := cn hSw JA0; have hcq1 := cn hSw JA1; go_simp; try (with_reducible rfl))
      (try simp only [Act.put, List.setIfInBounds_toArray, List.set_cons_zero, List.set_cons_succ])
      refine take_d (i := 8) (v := ?vq44_9) rfl (by rfl) (by kernel_rfl) (by kernel_rfl) (by kernel_rfl) (fun _ _ _ h => h) (Or.inl ⟨by rfl, ?hq44_9⟩) (by assumption) ?rq44_9
      case hq44_9 => (intro wS hSw; (try dsimp only at hSw); go_simp; try (with_reducible rfl))
      (try simp only [Act.put, List.setIfInBounds_toArray, List.set_cons_zero, List.set_cons_succ])
      refine take_d (i := 9) (v := ?vq44_10) rfl (by rfl) (by kernel_rfl) (by kernel_rfl) (by kernel_rfl) (fun _ _ _ h => h) (Or.inl ⟨by rfl, ?hq44_10⟩) (by assumption) ?rq44_10
      case hq44_10 => (intro wS hSw; (try dsimp only at hSw); have hcq0 := cn hSw JA0; have hcq1 := cn hSw JA1; go_simp; try (with_reducible rfl))
      (try simp only [Act.put, List.setIfInBounds_toArray, List.set_cons_zero, List.set_cons_succ])
      refine take_d (i := 10) (v := ?vq44_11) rfl (by rfl) (by kernel_rfl) (by kernel_rfl) (by kernel_rfl) (fun _ _ _ h => h) (Or.inl ⟨by rfl, ?hq44_11⟩) (by assumption) ?rq44_11
      case hq44_11 => (intro wS hSw; (try dsimp only at hSw); go_simp; try (with_reducible rfl))
      (try simp only [Act.put, List.setIfInBounds_toArray, List.set_cons_zero, List.set_cons_succ])
      refine wpAnyH_ready (rs := [11]) (by kernel_rfl) (by simp) ?_
      refine AllReadyH.cons rfl (fun K hK => ?_) AllReadyH.nil
      go_simp
      go_at_call 46
      refine (HT.out _).mono ?_
      rintro e wq44_12 ⟨rfl, bkq44_12⟩
      have hBn := below_next hBk bkq44_12
      clear hBk bkq44_12
      have hBk := hBn
      clear hBn
      try go_simp
      refine hK.out _ _ ?_ (fun hHeld => ?_)
      · (try dsimp only); exact hBk
      clear hK K
      (try simp only [Act.put, List.setIfInBounds_toArray, List.set_cons_zero, List.set_cons_succ])
      refine take_d (i := 12) (v := ?vq44_13) rfl (by rfl) (by kernel_rfl) (by kernel_rfl) (by kernel_rfl) (fun _ _ _ h => h) (Or.inl ⟨by rfl, ?hq44_13⟩) (by assumption) ?rq44_13
      case hq44_13 => (intro wS hSw; (try dsimp only at hSw); go_simp; try (with_reducible rfl))
      (try simp only [Act.put, List.setIfInBounds_toArray, List.set_cons_zero, List.set_cons_succ])
      refine take_d (i := 13) (v := ?vq44_14) rfl (by rfl) (by kernel_rfl) (by kernel_rfl) (by kernel_rfl) (fun _ _ _ h => h) (Or.inl ⟨by rfl, ?hq44_14⟩) (by assumption) ?rq44_14
      case hq44_14 => (intro wS hSw; (try dsimp only at hSw); go_simp; try (with_reducible rfl))
      (try simp only [Act.put, List.setIfInBounds_toArray, List.set_cons_zero, List.set_cons_succ])
      refine take_d (i := 14) (v := ?vq44_15) rfl (by rfl) (by kernel_rfl) (by kernel_rfl) (by kernel_rfl) (fun _ _ _ h => h) (Or.inl ⟨by rfl, ?hq44_15⟩) (by assumption) ?rq44_15
      case hq44_15 => (intro wS hSw; (try dsimp only at hSw); have hcq0 := cn hSw JA0; have hcq1 := cn hSw JA1; go_simp; try (with_reducible rfl))
      (try simp only [Act.put, List.setIfInBounds_toArray, List.set_cons_zero, List.set_cons_succ])
      refine take_d (i := 17) (v := ?vq44_16) rfl (by rfl) (by kernel_rfl) (by kernel_rfl) (by kernel_rfl) (fun _ _ _ h => h) (Or.inl ⟨by rfl, ?hq44_16⟩) (by assumption) ?rq44_16
      case hq44_16 => (intro wS hSw; (try dsimp only at hSw); go_simp; try (with_reducible rfl))
      (try simp only [Act.put, List.setIfInBounds_toArray, List.set_cons_zero, List.set_cons_succ])
      refine take_d (i := 18) (v := ?vq44_17) rfl (by rfl) (by kernel_rfl) (by kernel_rfl) (by kernel_rfl) (fun _ _ _ h => h) (Or.inl ⟨by rfl, ?hq44_17⟩) (by assumption) ?rq44_17
      case hq44_17 => (intro wS hSw; (try dsimp only at hSw); have hcq0 := cn hSw JA0; have hcq1 := cn hSw JA1; go_simp; try (with_reducible rfl))
      (try simp only [Act.put, List.setIfInBounds_toArray, List.set_cons_zero, List.set_cons_succ])
      refine take_d (i := 19) (v := ?vq44_18) rfl (by rfl) (by kernel_rfl) (by kernel_rfl) (by kernel_rfl) (fun _ _ _ h => h) (Or.inl ⟨by rfl, ?hq44_18⟩) (by assumption) ?rq44_18
      case hq44_18 => (intro wS hSw; (try dsimp only at hSw); go_simp; try (with_reducible rfl))
      (try simp only [Act.put, List.setIfInBounds_toArray, List.set_cons_zero, List.set_cons_succ])
      refine wpAnyH_ready (rs := [15]) (by kernel_rfl) (by simp) ?_
      refine AllReadyH.cons rfl (fun K hK => ?_) AllReadyH.nil
      go_simp
      go_at_call 49
      refine (FR.out _).mono ?_
      rintro e wq44_19 ⟨rfl, bkq44_19⟩
      have hBn := below_next hBk bkq44_19
      clear hBk bkq44_19
      have hBk := hBn
      clear hBn
      try go_simp
      refine hK.out _ _ ?_ (fun hHeld => ?_)
      · (try dsimp only); exact hBk
      clear hK K
      (try simp only [Act.put, List.setIfInBounds_toArray, List.set_cons_zero, List.set_cons_succ])
      refine take_d (i := 16) (v := ?vq44_20) rfl (by rfl) (by kernel_rfl) (by kernel_rfl) (by kernel_rfl) (fun _ _ _ h => h) (Or.inl ⟨by rfl, ?hq44_20⟩) (by assumption) ?rq44_20
      case hq44_20 => (intro wS hSw; (try dsimp only at hSw); go_simp; try (with_reducible rfl))
      (try simp only [Act.put, List.setIfInBounds_toArray, List.set_cons_zero, List.set_cons_succ])
      refine take_d (i := 20) (v := ?vq44_21) rfl (by rfl) (by kernel_rfl) (by kernel_rfl) (by kernel_rfl) (fun _ _ _ h => h) (Or.inl ⟨by rfl, ?hq44_21⟩) (by assumption) ?rq44_21
      case hq44_21 => (intro wS hSw; (try dsimp only at hSw); go_simp; try (with_reducible rfl))
      (try simp only [Act.put, List.setIfInBounds_toArray, List.set_cons_zero, List.set_cons_succ])
      refine take_d (i := 21) (v := ?vq44_22) rfl (by rfl) (by kernel_rfl) (by kernel_rfl) (by kernel_rfl) (fun _ _ _ h => h) (Or.inl ⟨by rfl, ?hq44_22⟩) (by assumption) ?rq44_22
      case hq44_22 => (intro wS hSw; (try dsimp only at hSw); go_simp; try (with_reducible rfl))
      (try simp only [Act.put, List.setIfInBounds_toArray, List.set_cons_zero, List.set_cons_succ])
      refine take_d (i := 22) (v := ?vq44_23) rfl (by rfl) (by kernel_rfl) (by kernel_rfl) (by kernel_rfl) (fun _ _ _ h => h) (Or.inl ⟨by rfl, ?hq44_23⟩) (by assumption) ?rq44_23
      case hq44_23 => (intro wS hSw; (try dsimp only at hSw); go_simp; try (with_reducible rfl))
      (try simp only [Act.put, List.setIfInBounds_toArray, List.set_cons_zero, List.set_cons_succ])
      refine wpAnyH_done (by kernel_rfl) ?_ _
      clear JA0 JA1 JAl JB0 JB1 JBl JC0 JC1 JCl JJ0 JJ1 JJl JM0 JM1 JMl lB
      generalize wq44_19 = w16 at hBk ⊢
      replace JA := JA.below hBk
      replace JB := JB.below hBk
      replace JC := JC.below hBk
      replace JJ := JJ.below hBk
      replace JM := JM.below hBk
      replace B := below_next B hBk
      clear hBk
      go_wp2
      go_ret
      exact ⟨rfl, B⟩
    · skip
      obtain rfl : cb = false := hNo.out (by trivial)
      have JA0 := JA.2.1
      have JA1 := JA.2.2
      have JAl := JA.1
      have JB0 := JB.2.1
      have JB1 := JB.2.2
      have JBl := JB.1
      have JC0 := JC.2.1
      have JC1 := JC.2.2
      have JCl := JC.1
      have JJ0 := JJ.2.1
      have JJ1 := JJ.2.2
      have JJl := JJ.1
      have JM0 := JM.2.1
      have JM1 := JM.2.2
      have JMl := JM.1
      have lB := B.size
      go_wp2_with fail
      refine (Icb.out _).mono ?_
      rintro e w16 ⟨rfl, z⟩
      clear JA0 JA1 JAl JB0 JB1 JBl JC0 JC1 JCl JJ0 JJ1 JJl JM0 JM1 JMl lB
      replace JA := JA.below z
      replace JB := JB.below z
      replace JC := JC.below z
      replace JJ := JJ.below z
      replace JM := JM.below z
      replace B := below_next B z
      clear z
      have hce := hce.out
      have JA0 := JA.2.1
      have JA1 := JA.2.2
      have JAl := JA.1
      have JB0 := JB.2.1
      have JB1 := JB.2.2
      have JBl := JB.1
      have JC0 := JC.2.1
      have JC1 := JC.2.2
      have JCl := JC.1
      have JJ0 := JJ.2.1
      have JJ1 := JJ.2.2
      have JJl := JJ.1
      have JM0 := JM.2.1
      have JM1 := JM.2.2
      have JMl := JM.1
      have lB := B.size
      go_wp2_with fail
      refine wp_region_held_drew (S := (fun w' : World => Below w16.heap.size w16 w')) (by kernel_rfl) ?_ (fun hHeld => ?_)
      · (try dsimp only); first | (with_reducible exact below_dr _) | (with_reducible exact Below.refl _ _) | exact below_dr _
      have hBk := below_dr w16
      refine take_d (i := 0) (v := ?vq45_1) rfl (by rfl) (by kernel_rfl) (by kernel_rfl) (by kernel_rfl) (fun _ _ _ h => h) (Or.inl ⟨by rfl, ?hq45_1⟩) (by assumption) ?rq45_1
      case hq45_1 => (intro wS hSw; (try dsimp only at hSw); have hcq0 := cn hSw JA0; have hcq1 := cn hSw JA1; go_simp; try (with_reducible rfl))
      (try simp only [Act.put, List.setIfInBounds_toArray, List.set_cons_zero, List.set_cons_succ])
      refine take_d (i := 1) (v := ?vq45_2) rfl (by rfl) (by kernel_rfl) (by kernel_rfl) (by kernel_rfl) (fun _ _ _ h => h) (Or.inl ⟨by rfl, ?hq45_2⟩) (by assumption) ?rq45_2
      case hq45_2 => (intro wS hSw; (try dsimp only at hSw); go_simp; try (with_reducible rfl))
      (try simp only [Act.put, List.setIfInBounds_toArray, List.set_cons_zero, List.set_cons_succ])
      refine take_d (i := 2) (v := ?vq45_3) rfl (by rfl) (by kernel_rfl) (by kernel_rfl) (by kernel_rfl) (fun _ _ _ h => h) (Or.inl ⟨by rfl, ?hq45_3⟩) (by assumption) ?rq45_3
      case hq45_3 => (intro wS hSw; (try dsimp only at hSw); have hcq0 := cn hSw JA0; have hcq1 := cn hSw JA1; go_simp; try (with_reducible rfl))
      (try simp only [Act.put, List.setIfInBounds_toArray, List.set_cons_zero, List.set_cons_succ])
      refine wpAnyH_ready (rs := [3]) (by kernel_rfl) (by simp) ?_
      refine AllReadyH.cons rfl (fun K hK => ?_) AllReadyH.nil
      go_simp
      go_at_call 46
      refine (HL.out _).mono ?_
      rintro e wq45_4 ⟨rfl, bkq45_4⟩
      have hBn := below_next hBk bkq45_4
      clear hBk bkq45_4
      have hBk := hBn
      clear hBn
      try go_simp
      refine hK.out _ _ ?_ (fun hHeld => ?_)
      · (try dsimp only); exact hBk
      clear hK K
      (try simp only [Act.put, List.setIfInBounds_toArray, List.set_cons_zero, List.set_cons_succ])
      refine take_d (i := 4) (v := ?vq45_5) rfl (by rfl) (by kernel_rfl) (by kernel_rfl) (by kernel_rfl) (fun _ _ _ h => h) (Or.inl ⟨by rfl, ?hq45_5⟩) (by assumption) ?rq45_5
      case hq45_5 => (intro wS hSw; (try dsimp only at hSw); go_simp; try (with_reducible rfl))
      (try simp only [Act.put, List.setIfInBounds_toArray, List.set_cons_zero, List.set_cons_succ])
      refine take_d (i := 5) (v := ?vq45_6) rfl (by rfl) (by kernel_rfl) (by kernel_rfl) (by kernel_rfl) (fun _ _ _ h => h) (Or.inl ⟨by rfl, ?hq45_6⟩) (by assumption) ?rq45_6
      case hq45_6 => (intro wS hSw; (try dsimp only at hSw); have hcq0 := cn hSw JA0; have hcq1 := cn hSw JA1; go_simp; try (with_reducible rfl))
      (try simp only [Act.put, List.setIfInBounds_toArray, List.set_cons_zero, List.set_cons_succ])
      refine take_d (i := 6) (v := ?vq45_7) rfl (by rfl) (by kernel_rfl) (by kernel_rfl) (by kernel_rfl) (fun _ _ _ h => h) (Or.inl ⟨by rfl, ?hq45_7⟩) (by assumption) ?rq45_7
      case hq45_7 => (intro wS hSw; (try dsimp only at hSw); go_simp; try (with_reducible rfl))
      (try simp only [Act.put, List.setIfInBounds_toArray, List.set_cons_zero, List.set_cons_succ])
      refine take_d (i := 7) (v := ?vq45_8) rfl (by rfl) (by kernel_rfl) (by kernel_rfl) (by kernel_rfl) (fun _ _ _ h => h) (Or.inl ⟨by rfl, ?hq45_8⟩) (by assumption) ?rq45_8
      case hq45_8 => (intro wS hSw; (try dsimp only at hSw); have hcq0 := cn hSw JA0; have hcq1 := cn hSw JA1; go_simp; try (with_reducible rfl))
      (try simp only [Act.put, List.setIfInBounds_toArray, List.set_cons_zero, List.set_cons_succ])
      refine take_d (i := 8) (v := ?vq45_9) rfl (by rfl) (by kernel_rfl) (by kernel_rfl) (by kernel_rfl) (fun _ _ _ h => h) (Or.inl ⟨by rfl, ?hq45_9⟩) (by assumption) ?rq45_9
      case hq45_9 => (intro wS hSw; (try dsimp only at hSw); go_simp; try (with_reducible rfl))
      (try simp only [Act.put, List.setIfInBounds_toArray, List.set_cons_zero, List.set_cons_succ])
      refine take_d (i := 9) (v := ?vq45_10) rfl (by rfl) (by kernel_rfl) (by kernel_rfl) (by kernel_rfl) (fun _ _ _ h => h) (Or.inl ⟨by rfl, ?hq45_10⟩) (by assumption) ?rq45_10
      case hq45_10 => (intro wS hSw; (try dsimp only at hSw); have hcq0 := cn hSw JA0; have hcq1 := cn hSw JA1; go_simp; try (with_reducible rfl))
      (try simp only [Act.put, List.setIfInBounds_toArray, List.set_cons_zero, List.set_cons_succ])
      refine take_d (i := 10) (v := ?vq45_11) rfl (by rfl) (by kernel_rfl) (by kernel_rfl) (by kernel_rfl) (fun _ _ _ h => h) (Or.inl ⟨by rfl, ?hq45_11⟩) (by assumption) ?rq45_11
      case hq45_11 => (intro wS hSw; (try dsimp only at hSw); go_simp; try (with_reducible rfl))
      (try simp only [Act.put, List.setIfInBounds_toArray, List.set_cons_zero, List.set_cons_succ])
      refine wpAnyH_ready (rs := [11]) (by kernel_rfl) (by simp) ?_
      refine AllReadyH.cons rfl (fun K hK => ?_) AllReadyH.nil
      go_simp
      go_at_call 46
      refine (HT.out _).mono ?_
      rintro e wq45_12 ⟨rfl, bkq45_12⟩
      have hBn := below_next hBk bkq45_12
      clear hBk bkq45_12
      have hBk := hBn
      clear hBn
      try go_simp
      refine hK.out _ _ ?_ (fun hHeld => ?_)
      · (try dsimp only); exact hBk
      clear hK K
      (try simp only [Act.put, List.setIfInBounds_toArray, List.set_cons_zero, List.set_cons_succ])
      refine take_d (i := 12) (v := ?vq45_13) rfl (by rfl) (by kernel_rfl) (by kernel_rfl) (by kernel_rfl) (fun _ _ _ h => h) (Or.inl ⟨by rfl, ?hq45_13⟩) (by assumption) ?rq45_13
      case hq45_13 => (intro wS hSw; (try dsimp only at hSw); go_simp; try (with_reducible rfl))
      (try simp only [Act.put, List.setIfInBounds_toArray, List.set_cons_zero, List.set_cons_succ])
      refine take_d (i := 13) (v := ?vq45_14) rfl (by rfl) (by kernel_rfl) (by kernel_rfl) (by kernel_rfl) (fun _ _ _ h => h) (Or.inl ⟨by rfl, ?hq45_14⟩) (by assumption) ?rq45_14
      case hq45_14 => (intro wS hSw; (try dsimp only at hSw); go_simp; try (with_reducible rfl))
      (try simp only [Act.put, List.setIfInBounds_toArray, List.set_cons_zero, List.set_cons_succ])
      refine take_d (i := 14) (v := ?vq45_15) rfl (by rfl) (by kernel_rfl) (by kernel_rfl) (by kernel_rfl) (fun _ _ _ h => h) (Or.inl ⟨by rfl, ?hq45_15⟩) (by assumption) ?rq45_15
      case hq45_15 => (intro wS hSw; (try dsimp only at hSw); have hcq0 := cn hSw JA0; have hcq1 := cn hSw JA1; go_simp; try (with_reducible rfl))
      (try simp only [Act.put, List.setIfInBounds_toArray, List.set_cons_zero, List.set_cons_succ])
      refine take_d (i := 17) (v := ?vq45_16) rfl (by rfl) (by kernel_rfl) (by kernel_rfl) (by kernel_rfl) (fun _ _ _ h => h) (Or.inl ⟨by rfl, ?hq45_16⟩) (by assumption) ?rq45_16
      case hq45_16 => (intro wS hSw; (try dsimp only at hSw); go_simp; try (with_reducible rfl))
      (try simp only [Act.put, List.setIfInBounds_toArray, List.set_cons_zero, List.set_cons_succ])
      refine take_d (i := 18) (v := ?vq45_17) rfl (by rfl) (by kernel_rfl) (by kernel_rfl) (by kernel_rfl) (fun _ _ _ h => h) (Or.inl ⟨by rfl, ?hq45_17⟩) (by assumption) ?rq45_17
      case hq45_17 => (intro wS hSw; (try dsimp only at hSw); have hcq0 := cn hSw JA0; have hcq1 := cn hSw JA1; go_simp; try (with_reducible rfl))
      (try simp only [Act.put, List.setIfInBounds_toArray, List.set_cons_zero, List.set_cons_succ])
      refine take_d (i := 19) (v := ?vq45_18) rfl (by rfl) (by kernel_rfl) (by kernel_rfl) (by kernel_rfl) (fun _ _ _ h => h) (Or.inl ⟨by rfl, ?hq45_18⟩) (by assumption) ?rq45_18
      case hq45_18 => (intro wS hSw; (try dsimp only at hSw); go_simp; try (with_reducible rfl))
      (try simp only [Act.put, List.setIfInBounds_toArray, List.set_cons_zero, List.set_cons_succ])
      refine wpAnyH_ready (rs := [15]) (by kernel_rfl) (by simp) ?_
      refine AllReadyH.cons rfl (fun K hK => ?_) AllReadyH.nil
      go_simp
      go_at_call 49
      refine (FR.out _).mono ?_
      rintro e wq45_19 ⟨rfl, bkq45_19⟩
      have hBn := below_next hBk bkq45_19
      clear hBk bkq45_19
      have hBk := hBn
      clear hBn
      try go_simp
      refine hK.out _ _ ?_ (fun hHeld => ?_)
      · (try dsimp only); exact hBk
      clear hK K
      (try simp only [Act.put, List.setIfInBounds_toArray, List.set_cons_zero, List.set_cons_succ])
      refine take_d (i := 16) (v := ?vq45_20) rfl (by rfl) (by kernel_rfl) (by kernel_rfl) (by kernel_rfl) (fun _ _ _ h => h) (Or.inl ⟨by rfl, ?hq45_20⟩) (by assumption) ?rq45_20
      case hq45_20 => (intro wS hSw; (try dsimp only at hSw); go_simp; try (with_reducible rfl))
      (try simp only [Act.put, List.setIfInBounds_toArray, List.set_cons_zero, List.set_cons_succ])
      refine take_d (i := 20) (v := ?vq45_21) rfl (by rfl) (by kernel_rfl) (by kernel_rfl) (by kernel_rfl) (fun _ _ _ h => h) (Or.inl ⟨by rfl, ?hq45_21⟩) (by assumption) ?rq45_21
      case hq45_21 => (intro wS hSw; (try dsimp only at hSw); go_simp; try (with_reducible rfl))
      (try simp only [Act.put, List.setIfInBounds_toArray, List.set_cons_zero, List.set_cons_succ])
      refine take_d (i := 21) (v := ?vq45_22) rfl (by rfl) (by kernel_rfl) (by kernel_rfl) (by kernel_rfl) (fun _ _ _ h => h) (Or.inl ⟨by rfl, ?hq45_22⟩) (by assumption) ?rq45_22
      case hq45_22 => (intro wS hSw; (try dsimp only at hSw); go_simp; try (with_reducible rfl))
      (try simp only [Act.put, List.setIfInBounds_toArray, List.set_cons_zero, List.set_cons_succ])
      refine take_d (i := 22) (v := ?vq45_23) rfl (by rfl) (by kernel_rfl) (by kernel_rfl) (by kernel_rfl) (fun _ _ _ h => h) (Or.inl ⟨by rfl, ?hq45_23⟩) (by assumption) ?rq45_23
      case hq45_23 => (intro wS hSw; (try dsimp only at hSw); go_simp; try (with_reducible rfl))
      (try simp only [Act.put, List.setIfInBounds_toArray, List.set_cons_zero, List.set_cons_succ])
      refine wpAnyH_done (by kernel_rfl) ?_ _
      clear JA0 JA1 JAl JB0 JB1 JBl JC0 JC1 JCl JJ0 JJ1 JJl JM0 JM1 JMl lB
      generalize wq45_19 = w17 at hBk ⊢
      replace JA := JA.below hBk
      replace JB := JB.below hBk
      replace JC := JC.below hBk
      replace JJ := JJ.below hBk
      replace JM := JM.below hBk
      replace B := below_next B hBk
      clear hBk
      go_wp2
      go_ret
      exact ⟨rfl, B⟩
end Go.Proofs.Ytoanbjnhoggpjaa
